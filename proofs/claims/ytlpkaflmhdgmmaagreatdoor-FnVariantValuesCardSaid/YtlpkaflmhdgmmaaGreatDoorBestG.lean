/-
  Put together: Scales, BestLow, BlkIn, First, BestIn, BestInFns
-/
import Derived.Test.YtlpkaflmhdgmmaaGreatDoorHighIn6
import Derived.Test.YtlpkaflmhdgmmaaGreatDoorDeuG
import Derived.Test.YtlpkaflmhdgmmaaGreatDoorBase
import Derived.TacticsIn
import Derived.BigFrameIn
import Derived.OwnWalkIn
import Derived.Test.YtlpkaflmhdgmmaaGreatDoorIterG
import Derived.Test.YtlpkaflmhdgmmaaGreatDoorSpecLow6
import Derived.Test.YtlpkaflmhdgmmaaGreatDoorHighInFns
import Derived.Test.YtlpkaflmhdgmmaaGreatDoorAnyR
import Derived.Deep.DeepCutAuto

/-! The scales of a variant: the low one, the main one; whether a low value counts. -/
namespace Go.Proofs.YtlpkaflmhdgmmaaGreatDoor
open Go.RowKit
set_option linter.unusedVariables false
attribute [local go_sem] Oper.semAt_some

/-- A scale: the value of a hand, the better one of two, the worst. -/
def scL (f0 : Fn) (rb : Array Value) (f1 : Nat) (z : Int) : List Value := [.func f0 rb #[], .func (.func f1) #[] #[], .int .i64 z]
def scV (f0 : Fn) (rb : Array Value) (f1 : Nat) (z : Int) : Value := .agg #[.func f0 rb #[], .func (.func f1) #[] #[], .int .i64 z]
theorem scL_one (f0 : Fn) (rb : Array Value) (f1 : Nat) (z : Int) : ∀ v ∈ scL f0 rb f1 z, v.oneCell' = true := fun v hv => by
  unfold scL at hv
  simp at hv
  rcases hv with rfl | rfl | rfl <;> rfl
def lowF : Fn := .method "loop.example/g00910/impl.lowValue"
def aceV : Value := scV lowF #[.iface 71 (.agg #[])] 63 9223372036854775807
def deuV : Value := scV lowF #[.iface 92 (.agg #[])] 63 9223372036854775807
def loV (lo : Int) : Value := if lo = 3 then deuV else aceV
theorem heap2 (w : World) (a b : Obj) : ((w.alloc a).alloc b).heap[w.heap.size + 1]? = some b := by
  have := heap_alloc_new (w.alloc a) b
  rwa [World.size_alloc] at this
set_option maxRecDepth 100000 in
set_option maxHeartbeats 1000000 in
theorem lowScale_ace (h l m b : Int) (hi : Bool) (lo : Int) (w : World) (hl : lo ≠ 3) :
    Calls Tryz.prog 37 #[vV h l m b hi lo] w (Fresh (loV lo) w) := by
  have EL : Hid (loV lo = aceV) := Lib.hid (by unfold loV; rw [if_neg hl])
  have hd : (lo == 3) = false := by simp [hl]
  unfold vV
  go_enter Tryz.func37, Tryz.ntmps37
  go_wp2_with (refine wpList_store_blk 50 3 rfl (.tmp 2) (.tmp 14) rfl i85S (w.heap.size + 1) rfl (scL lowF #[.iface 71 (.agg #[])] 63 9223372036854775807) rfl rfl (scL_one _ _ _ _) _ (heap2 w _ _) rfl ?_)
  intro w3 hb3 hg3
  have N3 := Lib.hid hb3
  have B3 := Lib.hid (bl_blk (bl_alloc (bl_alloc (bl_refl w) _) _) hg3 (by omega))
  clear hg3
  obtain ⟨g0, _⟩ := hb3.cell 0 _ rfl
  obtain ⟨g1, _⟩ := hb3.cell 1 _ rfl
  obtain ⟨g2, _⟩ := hb3.cell 2 _ rfl
  clear hb3
  go_wp2_with fail
  rw [EL.out]
  exact bodyPost_ret (v := aceV) (by simp [results, Tryz.results37, go_sem, aceV, scV, g0, g1, g2]) rfl ⟨rfl, B3.out⟩
set_option maxRecDepth 100000 in
set_option maxHeartbeats 1000000 in
theorem lowScale_deu (h l m b : Int) (hi : Bool) (lo : Int) (w : World) (hl : lo = 3) :
    Calls Tryz.prog 37 #[vV h l m b hi lo] w (Fresh (loV lo) w) := by
  have EL : Hid (loV lo = deuV) := Lib.hid (by unfold loV; rw [if_pos hl])
  have hd : (lo == 3) = true := by simp [hl]
  unfold vV
  go_enter Tryz.func37, Tryz.ntmps37
  go_wp2_with (refine wpList_store_blk 50 3 rfl (.tmp 2) (.tmp 14) rfl i85S (w.heap.size + 1) rfl (scL lowF #[.iface 92 (.agg #[])] 63 9223372036854775807) rfl rfl (scL_one _ _ _ _) _ (heap2 w _ _) rfl ?_)
  intro w3 hb3 hg3
  have N3 := Lib.hid hb3
  have B3 := Lib.hid (bl_blk (bl_alloc (bl_alloc (bl_refl w) _) _) hg3 (by omega))
  clear hg3
  obtain ⟨g0, _⟩ := hb3.cell 0 _ rfl
  obtain ⟨g1, _⟩ := hb3.cell 1 _ rfl
  obtain ⟨g2, _⟩ := hb3.cell 2 _ rfl
  clear hb3
  go_wp2_with fail
  rw [EL.out]
  exact bodyPost_ret (v := deuV) (by simp [results, Tryz.results37, go_sem, deuV, scV, g0, g1, g2]) rfl ⟨rfl, B3.out⟩
set_option maxRecDepth 100000 in
set_option maxHeartbeats 1000000 in
theorem mainScale_hi (h l m b lo : Int) (f0 : Fn) (rb : Array Value) (f1 : Nat) (z : Int) (w : World) (KS : Hid (∀ W, Calls Tryz.prog 36 #[] W (Fresh (scV f0 rb f1 z) W))) :
    Calls Tryz.prog 25 #[vV h l m b true lo] w (Fresh (scV f0 rb f1 z) w) := by
  unfold vV at *
  go_enter Tryz.func25, Tryz.ntmps25
  go_wp2_with (first
    | (go_at_call 36; refine (KS.out _).mono ?_; rintro e w1 ⟨rfl, hb1⟩)
    | (refine wpList_store_blk 50 3 rfl (.tmp 2) (.tmp 5) rfl i85S (w.heap.size + 1) rfl (scL f0 rb f1 z) rfl rfl (scL_one _ _ _ _) _ ((hb1.block (w.heap.size + 1) (by simp)).trans (heap2 w _ _)) rfl ?_))
  intro w3 hb3 hg3
  have N3 := Lib.hid hb3
  have B3 := Lib.hid (bl_blk (bl_trans (bl_alloc (bl_alloc (bl_refl w) _) _) hb1) hg3 (by omega))
  clear hg3 hb1
  obtain ⟨g0, _⟩ := hb3.cell 0 _ rfl
  obtain ⟨g1, _⟩ := hb3.cell 1 _ rfl
  obtain ⟨g2, _⟩ := hb3.cell 2 _ rfl
  clear hb3
  go_wp2_with fail
  exact bodyPost_ret (v := scV f0 rb f1 z) (by simp [results, Tryz.results25, go_sem, scV, g0, g1, g2]) rfl ⟨rfl, B3.out⟩
set_option maxRecDepth 100000 in
set_option maxHeartbeats 1000000 in
theorem mainScale_lo (h l m b lo : Int) (f0 : Fn) (rb : Array Value) (f1 : Nat) (z : Int) (w : World) (KS : Hid (∀ W, Calls Tryz.prog 37 #[vV h l m b false lo] W (Fresh (scV f0 rb f1 z) W))) :
    Calls Tryz.prog 25 #[vV h l m b false lo] w (Fresh (scV f0 rb f1 z) w) := by
  unfold vV at *
  go_enter Tryz.func25, Tryz.ntmps25
  go_wp2_with (first
    | (go_at_call 37; refine (KS.out _).mono ?_; rintro e w1 ⟨rfl, hb1⟩)
    | (refine wpList_store_blk 50 3 rfl (.tmp 2) (.tmp 7) rfl i85S (w.heap.size + 1) rfl (scL f0 rb f1 z) rfl rfl (scL_one _ _ _ _) _ ((hb1.block (w.heap.size + 1) (by simp)).trans (heap2 w _ _)) rfl ?_))
  intro w3 hb3 hg3
  have N3 := Lib.hid hb3
  have B3 := Lib.hid (bl_blk (bl_trans (bl_alloc (bl_alloc (bl_refl w) _) _) hb1) hg3 (by omega))
  clear hg3 hb1
  obtain ⟨g0, _⟩ := hb3.cell 0 _ rfl
  obtain ⟨g1, _⟩ := hb3.cell 1 _ rfl
  obtain ⟨g2, _⟩ := hb3.cell 2 _ rfl
  clear hb3
  go_wp2_with fail
  exact bodyPost_ret (v := scV f0 rb f1 z) (by simp [results, Tryz.results25, go_sem, scV, g0, g1, g2]) rfl ⟨rfl, B3.out⟩
/-- Does a low value count? -/
def countsB (lo x : Int) : Bool := decide (lo ≠ 1) || eightB x
set_option maxRecDepth 100000 in
set_option maxHeartbeats 1000000 in
theorem countsAsLow_any (h l m b : Int) (hi : Bool) (lo x : Int) (w : World) :
    Calls Tryz.prog 28 #[vV h l m b hi lo, .int .i64 x] w (Fresh (.bool (countsB lo x)) w) := by
  have K := Lib.hid (fun W => implEight6_any x W)
  have B0 := Lib.hid (bl_alloc (bl_refl w) (.cells #[.int .i64 h, .int .i64 l, .int .i64 m, .int .i64 b, .bool hi, .int .i64 lo] 25))
  unfold vV
  by_cases hl : lo = 1
  · subst hl
    have EC : Hid (countsB 1 x = eightB x) := Lib.hid (by unfold countsB; simp)
    generalize countsB 1 x = y at *
    generalize eightB x = y2 at *
    go_enter Tryz.func28, Tryz.ntmps28
    go_wp2_with (go_at_call 53; refine (K.out _).mono ?_; rintro e w1 ⟨rfl, rfl⟩)
    go_ret
    exact ⟨ret_bool (by rw [EC.out]), B0.out⟩
  · have EC : Hid (countsB lo x = true) := Lib.hid (by unfold countsB; simp [hl])
    have hd : (lo == 1) = false := by simp [hl]
    generalize countsB lo x = y at *
    go_enter Tryz.func28, Tryz.ntmps28
    go_wp2_with fail
    go_ret
    exact ⟨ret_bool (by rw [EC.out]), B0.out⟩
set_option maxRecDepth 100000 in
set_option maxHeartbeats 1000000 in
theorem l06Counts_any (h l m b : Int) (hi : Bool) (lo x : Int) (w : World) :
    Calls Tryz.prog 35 #[vV h l m b hi lo, .int .i64 x] w (Fresh (.bool (countsB lo x)) w) := by
  have K := Lib.hid (fun W => specEight6_any x W)
  have B0 := Lib.hid (bl_alloc (bl_refl w) (.cells #[.int .i64 h, .int .i64 l, .int .i64 m, .int .i64 b, .bool hi, .int .i64 lo] 25))
  unfold vV
  by_cases hl : lo = 1
  · subst hl
    have EC : Hid (countsB 1 x = eightB x) := Lib.hid (by unfold countsB; simp)
    generalize countsB 1 x = y at *
    generalize eightB x = y2 at *
    go_enter Tryz.func35, Tryz.ntmps35
    go_wp2_with (go_at_call 61; refine (K.out _).mono ?_; rintro e w1 ⟨rfl, rfl⟩)
    go_ret
    exact ⟨ret_bool (by rw [EC.out]), B0.out⟩
  · have EC : Hid (countsB lo x = true) := Lib.hid (by unfold countsB; simp [hl])
    have hd : (lo == 1) = false := by simp [hl]
    generalize countsB lo x = y at *
    go_enter Tryz.func35, Tryz.ntmps35
    go_wp2_with fail
    go_ret
    exact ⟨ret_bool (by rw [EC.out]), B0.out⟩
end Go.Proofs.YtlpkaflmhdgmmaaGreatDoor

/-! bestValue over a variant's hands by the low scales. -/
namespace Go.Proofs.YtlpkaflmhdgmmaaGreatDoor
open Go.RowKit
set_option linter.unusedVariables false
attribute [local go_sem] Oper.semAt_some

/-- The least of the first n values, as the program seeks it. -/
def mnV (V : Nat → Int) : Nat → Int
  | 0 => 9223372036854775807
  | n + 1 => minJ (mnV V n) (V n)
/-- What the rounds keep. -/
def BStace (w : World) (V : Nat → Int) (i : Nat) (W : World) : Prop :=
  Blk W w.heap.size 50 [.func (.method "loop.example/g00910/impl.lowValue") #[.iface 71 (.agg #[])] #[], .func (.func 63) #[] #[], .int .i64 9223372036854775807] ∧
  Blk W (w.heap.size + 1) 2 (ints [mnV V i]) ∧ Below w.heap.size w W
set_option maxRecDepth 100000 in
set_option maxHeartbeats 4000000 in
theorem bestace_any (A : Option Addr) (c : Nat) (hs : List Int) (A2 : Option Addr) (c2 : Nat) (bs : List Int) (l m b1 b2 b3 : Nat) (hi : Bool) (lo : Int) (B : Nat) (wt w : World) (ht : Hid (Low B wt)) (hB : Hid (Below B wt w)) (hBw : Hid (B ≤ w.heap.size))
    (h1 : Blk w b1 25 [.int .i64 (hs.length : Int), .int .i64 (l : Int), .int .i64 (m : Int), .int .i64 (bs.length : Int), .bool hi, .int .i64 lo]) (h2 : Blk w b2 26 [.slice A hs.length c]) (h3 : Blk w b3 26 [.slice A2 bs.length c2])
    (hr : Rd w A hs) (hr2 : Rd w A2 bs) (hh : hs.length ≤ 7) (hb7 : bs.length ≤ 7) (hlm : l ≤ m) (hm5 : m ≤ 5) (hc : cardsB (hs ++ bs) = true) :
    Calls Tryz.prog 27 #[aceV, .func (.func 50) #[] #[.pointer (some ⟨b1, 0, none⟩), .pointer (some ⟨b2, 0, none⟩), .pointer (some ⟨b3, 0, none⟩)]] w
      (Fresh (.int .i64 (mnV (fun k => aceS ((hRows hs bs l (m + 1 - l)).getD k [])) (hRows hs bs l (m + 1 - l)).length)) w) := by
  have HC := Lib.hid (hRows_cards_at hs bs l (m + 1 - l) (by omega) hc)
  have RB := Lib.hid (And.intro hr hr2)
  have P1 := Lib.hid h1
  have P2 := Lib.hid h2
  have P3 := Lib.hid h3
  have KM := Lib.hid minimumJ_any
  have L1 := h1.lt
  have L2 := h2.lt
  have L3 := h3.lt
  obtain ⟨V, eV⟩ : ∃ V, V = fun k => aceS ((hRows hs bs l (m + 1 - l)).getD k []) := ⟨_, rfl⟩
  have EV : Hid (∀ k, V k = aceS ((hRows hs bs l (m + 1 - l)).getD k [])) := Lib.hid (fun k => by rw [eV])
  rw [← eV]
  clear eV hr hr2 h1 h2 h3 hc
  have hm' : ∀ W : World, (method 262 71 (.agg #[]) "loop.example/g00910/impl.lowValue").run Tryz.prog W = .ok (146, .agg #[]) W := fun _ => by kernel_rfl
  have hna : ∀ W : World, (nilAhead 262 71 (.agg #[]) "loop.example/g00910/impl.lowValue").run Tryz.prog W = .ok (some false) W := fun _ => by kernel_rfl
  unfold aceV scV lowF
  refine (callsIn_wide (n := 10)).1 ?_
  refine callsIn_of_wp_marks Tryz.func27 rfl trivial ?_ rfl
  simp only [Tryz.ntmps27, List.size_toArray, List.length_cons, List.length_nil, Nat.reduceAdd, Nat.reduceSub, Array.replicate_succ, Array.replicate_zero, List.push_toArray, List.append_toArray, List.nil_append, List.cons_append]
  obtain ⟨w0, rfl⟩ : ∃ w0 : World, w0 = w := ⟨w, rfl⟩
  gi_wp2
  have b0 := blk_new w0 50 [.func (.method "loop.example/g00910/impl.lowValue") #[.iface 71 (.agg #[])] #[], .func (.func 63) #[] #[], .int .i64 9223372036854775807]
  have q0 := blk_new (w0.alloc (.cells #[.func (.method "loop.example/g00910/impl.lowValue") #[.iface 71 (.agg #[])] #[], .func (.func 63) #[] #[], .int .i64 9223372036854775807] 50)) 2 (ints [9223372036854775807])
  have BX := bl_alloc (bl_alloc (bl_refl w0) (.cells #[.func (.method "loop.example/g00910/impl.lowValue") #[.iface 71 (.agg #[])] #[], .func (.func 63) #[] #[], .int .i64 9223372036854775807] 50)) (.cells #[.int .i64 9223372036854775807] 2)
  have b1' := b0.below (bl_alloc (bl_refl _) (.cells #[.int .i64 9223372036854775807] 2))
  have hz : ((w0.alloc (.cells #[.func (.method "loop.example/g00910/impl.lowValue") #[.iface 71 (.agg #[])] #[], .func (.func 63) #[] #[], .int .i64 9223372036854775807] 50)).alloc (.cells #[.int .i64 9223372036854775807] 2)).heap.size = w0.heap.size + 1 + 1 := by simp
  rw [World.size_alloc] at q0
  simp only [ints, List.map_cons, List.map_nil, List.toArray] at q0 b1'
  obtain ⟨W3, eW3⟩ : ∃ W3, W3 = (w0.alloc (.cells #[.func (.method "loop.example/g00910/impl.lowValue") #[.iface 71 (.agg #[])] #[], .func (.func 63) #[] #[], .int .i64 9223372036854775807] 50)).alloc (.cells #[.int .i64 9223372036854775807] 2) := ⟨_, rfl⟩
  rw [← eW3] at BX b1' hz q0 ⊢
  have I0 : Hid (BStace w0 V 0 W3) := Lib.hid ⟨b1', q0, BX⟩
  have KIT := handsIter_any 9 A c hs A2 c2 bs l m b1 b2 b3 hh hb7 hlm hm5 (BStace w0 V) W3 (by omega)
    (fun i W h => by
      have hb := h.2.2
      exact ⟨((P1.out.below hb).cell 1 _ rfl).1, ((P1.out.below hb).cell 2 _ rfl).1, ((P2.out.below hb).cell 0 _ rfl).1, ((P3.out.below hb).cell 0 _ rfl).1, RB.out.1.below hb, RB.out.2.below hb⟩)
  clear eW3 b0 q0 b1' BX
  refine wpIn_rangeC rfl (by omega) (gf := 50) (lb := #[.pointer (some ⟨b1, 0, none⟩), .pointer (some ⟨b2, 0, none⟩), .pointer (some ⟨b3, 0, none⟩)]) rfl trivial (enters_of Tryz.func50 (by kernel_rfl) rfl)
    KIT (fun i W' ar h => by obtain ⟨rfl, _⟩ := h; rfl) (fun i A' B' ar h _ => h)
    (fun i A' B' h hb' => by
      obtain ⟨h1, h2, h3⟩ := h
      exact ⟨itw_blk hb' h1 (by kernel_rfl), itw_blk hb' h2 (by kernel_rfl), h3.trans (hb'.1.mono (by omega))⟩) I0.out
    (fun ar W' => { tmps := #[.agg #[.func (.method "loop.example/g00910/impl.lowValue") #[.iface 71 (.agg #[])] #[], .func (.func 63) #[] #[], .int .i64 9223372036854775807],
      .func (.func 50) #[] #[.pointer (some ⟨b1, 0, none⟩), .pointer (some ⟨b2, 0, none⟩), .pointer (some ⟨b3, 0, none⟩)],
      .pointer (some ⟨w0.heap.size, 0, none⟩), undef, .int .i64 0, .pointer (some ⟨w0.heap.size + 1, 0, none⟩), .pointer (some ⟨W'.heap.size, 0, none⟩), .pointer (some ⟨w0.heap.size, 2, none⟩), .int .i64 9223372036854775807,
      .func (.func 50) #[] #[.pointer (some ⟨b1, 0, none⟩), .pointer (some ⟨b2, 0, none⟩), .pointer (some ⟨b3, 0, none⟩)],
      ar.getD 0 undef, undef, undef, undef, undef, undef, undef, undef, undef, undef], defers := [] })
    (fun ar W' => W'.alloc (.cells (cellsV6 (ar.getD 0 undef)) 58)) (fun ar W' => bl_alloc (bl_refl W') _) ?assign ?body ?done
  case assign =>
    rintro lr i ar W' Kc ⟨rfl, h5⟩ hKc
    obtain ⟨x0, x1, x2, x3, x4, ex⟩ := list_five _ h5
    rw [ex] at hKc ⊢
    clear ex h5
    simp only [aggI, ints, List.map_cons, List.map_nil] at hKc ⊢
    gi_wp2
    exact hKc
  case body =>
    rintro lr i ar W0 W hi1 ⟨h1, h2, hbl⟩ ⟨rfl, hl5⟩ hgl hrl hW0 hca hsz
    obtain ⟨hcb, hc5⟩ := HC.out i hi1
    have KV := Lib.hid (fun (W' : World) (hb' : Below W.heap.size W W') => aceValue_any ((hRows hs bs l (m + 1 - l)).getD i []) W' hcb hc5)
    rw [← EV.out i] at KV
    have EM : Hid (mnV V (i + 1) = minJ (mnV V i) (V i)) := Lib.hid rfl
    generalize V i = v at *
    generalize mnV V i = q at *
    obtain ⟨x0, x1, x2, x3, x4, ex⟩ := list_five _ hl5
    rw [ex] at hca KV ⊢
    unfold aggI at KV
    have hbx : Blk W W0.heap.size 58 (ints [x0, x1, x2, x3, x4]) := hca _ _ _ _ (blk_new W0 58 (ints [x0, x1, x2, x3, x4]))
    have y0 := (hbx.cell 0 _ rfl).1
    have y1 := (hbx.cell 1 _ rfl).1
    have y2 := (hbx.cell 2 _ rfl).1
    have y3 := (hbx.cell 3 _ rfl).1
    have y4 := (hbx.cell 4 _ rfl).1
    have s0 := (h1.cell 0 _ rfl).1
    have s1 := (h1.cell 1 _ rfl).1
    obtain ⟨cq, fq⟩ := h2.cell 0 _ rfl
    have gbx := hbx.lt
    have gq := h2.lt
    have R1 := Lib.hid h1
    have R2 := Lib.hid h2
    have R6 := Lib.hid hbl
    have hmx : Tryz.prog.follows .mixedOrders = true := by kernel_rfl
    clear h1 h2 hbl hca hsz hrl hl5 ex I0 KIT hbx hcb hc5
    simp only [Array.getD_eq_getD_getElem?]
    gi_wp2
    change Code.wpIn (Fence.wide.inRound lr) _ _ _ _ _ _
    refine wpIn_region_anyR lr rfl hmx (noDefer_spec (by kernel_rfl)) ?_
    refine wpAnyIn_S (S := fun W' => Below W.heap.size W W') (last := 8) (m := 0) (k := 8) rfl (fun HC0 => ?_)
    have hS0 : Below W.heap.size W { W with drawn := W.drawn + 1 } := bl_drew (bl_refl W)
    obtain ⟨W1, eW1⟩ : ∃ W1 : World, W1 = { W with drawn := W.drawn + 1 } := ⟨_, rfl⟩
    have hz1 : W1.heap.size = W.heap.size := by rw [eW1]
    rw [← eW1] at hS0 ⊢
    clear eW1
    refine wpAnyS_take (i := 0) (kw := 2) (v := .pointer (some ⟨w0.heap.size, 1, none⟩)) rfl rfl (by kernel_rfl) (by kernel_rfl) (by kernel_rfl) (by kernel_rfl) (fun _ _ _ h => h) HC0 hS0 ⟨Or.inl ⟨by rfl, fun W' hs => ?_⟩, fun _ => rfl⟩ (fun HC1 => ?_)
    · go_simp
    refine wpAnyS_take (i := 3) (kw := 2) (v := .pointer (some ⟨w0.heap.size, 0, none⟩)) rfl rfl (by kernel_rfl) (by kernel_rfl) (by kernel_rfl) (by kernel_rfl) (fun _ _ _ h => h) HC1 hS0 ⟨Or.inl ⟨by rfl, fun W' hs => ?_⟩, fun _ => rfl⟩ (fun HC2 => ?_)
    · go_simp
    refine wpAnyS_take (i := 2) (kw := 2) (v := .int .i64 q) rfl rfl (by kernel_rfl) (by kernel_rfl) (by kernel_rfl) (by kernel_rfl) (fun _ _ _ h => h) HC2 hS0 ⟨Or.inl ⟨by rfl, fun W' hs => ?_⟩, fun _ => rfl⟩ (fun HC3 => ?_)
    · have c := ((bcell hs).1 (w0.heap.size + 1) 0 (by omega)).trans cq
      go_simp
    refine wpAnyS_take (i := 5) (kw := 2) (v := .agg #[.int .i64 x0, .int .i64 x1, .int .i64 x2, .int .i64 x3, .int .i64 x4]) rfl rfl (by kernel_rfl) (by kernel_rfl) (by kernel_rfl) (by kernel_rfl) (fun _ _ _ h => h) HC3 hS0 ⟨Or.inl ⟨by rfl, fun W' hs => ?_⟩, fun _ => rfl⟩ (fun HC4 => ?_)
    · have c0 := ((bcell hs).1 W0.heap.size 0 (by omega)).trans y0
      have c1 := ((bcell hs).1 W0.heap.size 1 (by omega)).trans y1
      have c2 := ((bcell hs).1 W0.heap.size 2 (by omega)).trans y2
      have c3 := ((bcell hs).1 W0.heap.size 3 (by omega)).trans y3
      have c4 := ((bcell hs).1 W0.heap.size 4 (by omega)).trans y4
      go_simp
    refine wpAnyS_take (i := 1) (kw := 2) (v := .func (.func 63) #[] #[]) rfl rfl (by kernel_rfl) (by kernel_rfl) (by kernel_rfl) (by kernel_rfl) (fun _ _ _ h => h) HC4 hS0 ⟨Or.inl ⟨by rfl, fun W' hs => ?_⟩, fun _ => rfl⟩ (fun HC5 => ?_)
    · have c := ((bcell hs).1 w0.heap.size 1 (by omega)).trans s1
      go_simp
    refine wpAnyS_take (i := 4) (kw := 2) (v := .func (.method "loop.example/g00910/impl.lowValue") #[.iface 71 (.agg #[])] #[]) rfl rfl (by kernel_rfl) (by kernel_rfl) (by kernel_rfl) (by kernel_rfl) (fun _ _ _ h => h) HC5 hS0 ⟨Or.inl ⟨by rfl, fun W' hs => ?_⟩, fun _ => rfl⟩ (fun HC6 => ?_)
    · have c := ((bcell hs).1 w0.heap.size 0 (by omega)).trans s0
      go_simp
    refine wpAnyS_one HC6 (i := 6) (by kernel_rfl) rfl hS0 (fun K hK => ?_)
    go_simp
    gi_wp2_with (refine ⟨trivial, ?_⟩; gi_at_call 146; refine (callsIn_wide.2 (KV.out _ hS0)).mono ?_; rintro e w6 ⟨rfl, hb6⟩)
    intro HC7
    have hS6 : Below W.heap.size W w6 := hS0.trans (hb6.mono hS0.size)
    refine wpAnyS_one HC7 (i := 7) (by kernel_rfl) rfl hS6 (fun K hK => ?_)
    go_simp
    gi_wp2_with (refine ⟨trivial, ?_⟩; gi_at_call 63; refine (callsIn_wide.2 (KM.out _ _ _)).mono ?_; rintro e w7 ⟨rfl, rfl⟩)
    intro HC8
    have c6 := ((bcell hS6).1 (w0.heap.size + 1) 0 (by omega)).trans cq
    have f6 := ((bcell hS6).2 (w0.heap.size + 1) 0 (by omega)).trans fq
    refine wpAnyS_last (by kernel_rfl) (by kernel_rfl) rfl hS6 (fun K hK => ?_)
    go_simp
    refine hK _ _ ?_
    clear hK K
    have s := blk_setI ((R2.out.below hS6)) 0 (minJ q v)
    gi_wp2
    have up : ∀ {g : Nat} {t : TypeId} {vs : List Value}, Blk W g t vs → g ≠ w0.heap.size + 1 → Blk (w6.setCell ⟨w0.heap.size + 1, 0, none⟩ (.int .i64 (minJ q v))) g t vs := fun hq h1 => (hq.below hS6).grown s.2 (fun e => h1 (Option.some.inj e))
    exact ⟨⟨up R1.out (by omega), by rw [EM.out]; exact s.1, bl_blk (bl_trans R6.out hS6) s.2 (by omega)⟩, (con_below hS6).trans (con_grown s.2 (R2.out.below hS6) (by kernel_rfl))⟩
  case done =>
    rintro D W hD ⟨r1, r2, r6⟩ hK
    generalize mnV V (hRows hs bs l (m + 1 - l)).length = q at *
    obtain ⟨cq, fq⟩ := r2.cell 0 _ rfl
    have R6 := Lib.hid r6
    clear r1 r2 r6
    gi_wp2
    refine ⟨by simp, .inl ⟨_, _, rfl, run_takeDeferred hK, ?_⟩⟩
    exact ⟨_, by simp [results, Tryz.f27, go_sem], rfl, R6.out.trans (putObj_below _ _ _ (by omega) (Array.getElem?_eq_some_iff.1 hK).1)⟩
/-- What the rounds keep. -/
def BStdeu (w : World) (V : Nat → Int) (i : Nat) (W : World) : Prop :=
  Blk W w.heap.size 50 [.func (.method "loop.example/g00910/impl.lowValue") #[.iface 92 (.agg #[])] #[], .func (.func 63) #[] #[], .int .i64 9223372036854775807] ∧
  Blk W (w.heap.size + 1) 2 (ints [mnV V i]) ∧ Below w.heap.size w W
set_option maxRecDepth 100000 in
set_option maxHeartbeats 4000000 in
theorem bestdeu_any (A : Option Addr) (c : Nat) (hs : List Int) (A2 : Option Addr) (c2 : Nat) (bs : List Int) (l m b1 b2 b3 : Nat) (hi : Bool) (lo : Int) (B : Nat) (wt w : World) (ht : Hid (Low B wt)) (hB : Hid (Below B wt w)) (hBw : Hid (B ≤ w.heap.size))
    (h1 : Blk w b1 25 [.int .i64 (hs.length : Int), .int .i64 (l : Int), .int .i64 (m : Int), .int .i64 (bs.length : Int), .bool hi, .int .i64 lo]) (h2 : Blk w b2 26 [.slice A hs.length c]) (h3 : Blk w b3 26 [.slice A2 bs.length c2])
    (hr : Rd w A hs) (hr2 : Rd w A2 bs) (hh : hs.length ≤ 7) (hb7 : bs.length ≤ 7) (hlm : l ≤ m) (hm5 : m ≤ 5) (hc : cardsB (hs ++ bs) = true) :
    Calls Tryz.prog 27 #[deuV, .func (.func 50) #[] #[.pointer (some ⟨b1, 0, none⟩), .pointer (some ⟨b2, 0, none⟩), .pointer (some ⟨b3, 0, none⟩)]] w
      (Fresh (.int .i64 (mnV (fun k => duS ((hRows hs bs l (m + 1 - l)).getD k [])) (hRows hs bs l (m + 1 - l)).length)) w) := by
  have HC := Lib.hid (hRows_cards_at hs bs l (m + 1 - l) (by omega) hc)
  have RB := Lib.hid (And.intro hr hr2)
  have P1 := Lib.hid h1
  have P2 := Lib.hid h2
  have P3 := Lib.hid h3
  have KM := Lib.hid minimumJ_any
  have L1 := h1.lt
  have L2 := h2.lt
  have L3 := h3.lt
  obtain ⟨V, eV⟩ : ∃ V, V = fun k => duS ((hRows hs bs l (m + 1 - l)).getD k []) := ⟨_, rfl⟩
  have EV : Hid (∀ k, V k = duS ((hRows hs bs l (m + 1 - l)).getD k [])) := Lib.hid (fun k => by rw [eV])
  rw [← eV]
  clear eV hr hr2 h1 h2 h3 hc
  have hm' : ∀ W : World, (method 262 92 (.agg #[]) "loop.example/g00910/impl.lowValue").run Tryz.prog W = .ok (151, .agg #[]) W := fun _ => by kernel_rfl
  have hna : ∀ W : World, (nilAhead 262 92 (.agg #[]) "loop.example/g00910/impl.lowValue").run Tryz.prog W = .ok (some false) W := fun _ => by kernel_rfl
  unfold deuV scV lowF
  refine (callsIn_wide (n := 10)).1 ?_
  refine callsIn_of_wp_marks Tryz.func27 rfl trivial ?_ rfl
  simp only [Tryz.ntmps27, List.size_toArray, List.length_cons, List.length_nil, Nat.reduceAdd, Nat.reduceSub, Array.replicate_succ, Array.replicate_zero, List.push_toArray, List.append_toArray, List.nil_append, List.cons_append]
  obtain ⟨w0, rfl⟩ : ∃ w0 : World, w0 = w := ⟨w, rfl⟩
  gi_wp2
  have b0 := blk_new w0 50 [.func (.method "loop.example/g00910/impl.lowValue") #[.iface 92 (.agg #[])] #[], .func (.func 63) #[] #[], .int .i64 9223372036854775807]
  have q0 := blk_new (w0.alloc (.cells #[.func (.method "loop.example/g00910/impl.lowValue") #[.iface 92 (.agg #[])] #[], .func (.func 63) #[] #[], .int .i64 9223372036854775807] 50)) 2 (ints [9223372036854775807])
  have BX := bl_alloc (bl_alloc (bl_refl w0) (.cells #[.func (.method "loop.example/g00910/impl.lowValue") #[.iface 92 (.agg #[])] #[], .func (.func 63) #[] #[], .int .i64 9223372036854775807] 50)) (.cells #[.int .i64 9223372036854775807] 2)
  have b1' := b0.below (bl_alloc (bl_refl _) (.cells #[.int .i64 9223372036854775807] 2))
  have hz : ((w0.alloc (.cells #[.func (.method "loop.example/g00910/impl.lowValue") #[.iface 92 (.agg #[])] #[], .func (.func 63) #[] #[], .int .i64 9223372036854775807] 50)).alloc (.cells #[.int .i64 9223372036854775807] 2)).heap.size = w0.heap.size + 1 + 1 := by simp
  rw [World.size_alloc] at q0
  simp only [ints, List.map_cons, List.map_nil, List.toArray] at q0 b1'
  obtain ⟨W3, eW3⟩ : ∃ W3, W3 = (w0.alloc (.cells #[.func (.method "loop.example/g00910/impl.lowValue") #[.iface 92 (.agg #[])] #[], .func (.func 63) #[] #[], .int .i64 9223372036854775807] 50)).alloc (.cells #[.int .i64 9223372036854775807] 2) := ⟨_, rfl⟩
  rw [← eW3] at BX b1' hz q0 ⊢
  have I0 : Hid (BStdeu w0 V 0 W3) := Lib.hid ⟨b1', q0, BX⟩
  have KIT := handsIter_any 9 A c hs A2 c2 bs l m b1 b2 b3 hh hb7 hlm hm5 (BStdeu w0 V) W3 (by omega)
    (fun i W h => by
      have hb := h.2.2
      exact ⟨((P1.out.below hb).cell 1 _ rfl).1, ((P1.out.below hb).cell 2 _ rfl).1, ((P2.out.below hb).cell 0 _ rfl).1, ((P3.out.below hb).cell 0 _ rfl).1, RB.out.1.below hb, RB.out.2.below hb⟩)
  clear eW3 b0 q0 b1' BX
  refine wpIn_rangeC rfl (by omega) (gf := 50) (lb := #[.pointer (some ⟨b1, 0, none⟩), .pointer (some ⟨b2, 0, none⟩), .pointer (some ⟨b3, 0, none⟩)]) rfl trivial (enters_of Tryz.func50 (by kernel_rfl) rfl)
    KIT (fun i W' ar h => by obtain ⟨rfl, _⟩ := h; rfl) (fun i A' B' ar h _ => h)
    (fun i A' B' h hb' => by
      obtain ⟨h1, h2, h3⟩ := h
      exact ⟨itw_blk hb' h1 (by kernel_rfl), itw_blk hb' h2 (by kernel_rfl), h3.trans (hb'.1.mono (by omega))⟩) I0.out
    (fun ar W' => { tmps := #[.agg #[.func (.method "loop.example/g00910/impl.lowValue") #[.iface 92 (.agg #[])] #[], .func (.func 63) #[] #[], .int .i64 9223372036854775807],
      .func (.func 50) #[] #[.pointer (some ⟨b1, 0, none⟩), .pointer (some ⟨b2, 0, none⟩), .pointer (some ⟨b3, 0, none⟩)],
      .pointer (some ⟨w0.heap.size, 0, none⟩), undef, .int .i64 0, .pointer (some ⟨w0.heap.size + 1, 0, none⟩), .pointer (some ⟨W'.heap.size, 0, none⟩), .pointer (some ⟨w0.heap.size, 2, none⟩), .int .i64 9223372036854775807,
      .func (.func 50) #[] #[.pointer (some ⟨b1, 0, none⟩), .pointer (some ⟨b2, 0, none⟩), .pointer (some ⟨b3, 0, none⟩)],
      ar.getD 0 undef, undef, undef, undef, undef, undef, undef, undef, undef, undef], defers := [] })
    (fun ar W' => W'.alloc (.cells (cellsV6 (ar.getD 0 undef)) 58)) (fun ar W' => bl_alloc (bl_refl W') _) ?assign ?body ?done
  case assign =>
    rintro lr i ar W' Kc ⟨rfl, h5⟩ hKc
    obtain ⟨x0, x1, x2, x3, x4, ex⟩ := list_five _ h5
    rw [ex] at hKc ⊢
    clear ex h5
    simp only [aggI, ints, List.map_cons, List.map_nil] at hKc ⊢
    gi_wp2
    exact hKc
  case body =>
    rintro lr i ar W0 W hi1 ⟨h1, h2, hbl⟩ ⟨rfl, hl5⟩ hgl hrl hW0 hca hsz
    obtain ⟨hcb, hc5⟩ := HC.out i hi1
    have KV := Lib.hid (fun (W' : World) (hb' : Below W.heap.size W W') => deuceValue_any ((hRows hs bs l (m + 1 - l)).getD i []) hcb hc5 B wt W' ht (Lib.hid (hB.out.trans ((hbl.trans (hb'.mono hbl.size)).mono hBw.out))) (Lib.hid (Nat.le_trans hBw.out (Nat.le_trans hbl.size hb'.size))))
    rw [← EV.out i] at KV
    have EM : Hid (mnV V (i + 1) = minJ (mnV V i) (V i)) := Lib.hid rfl
    generalize V i = v at *
    generalize mnV V i = q at *
    obtain ⟨x0, x1, x2, x3, x4, ex⟩ := list_five _ hl5
    rw [ex] at hca KV ⊢
    unfold aggI at KV
    have hbx : Blk W W0.heap.size 58 (ints [x0, x1, x2, x3, x4]) := hca _ _ _ _ (blk_new W0 58 (ints [x0, x1, x2, x3, x4]))
    have y0 := (hbx.cell 0 _ rfl).1
    have y1 := (hbx.cell 1 _ rfl).1
    have y2 := (hbx.cell 2 _ rfl).1
    have y3 := (hbx.cell 3 _ rfl).1
    have y4 := (hbx.cell 4 _ rfl).1
    have s0 := (h1.cell 0 _ rfl).1
    have s1 := (h1.cell 1 _ rfl).1
    obtain ⟨cq, fq⟩ := h2.cell 0 _ rfl
    have gbx := hbx.lt
    have gq := h2.lt
    have R1 := Lib.hid h1
    have R2 := Lib.hid h2
    have R6 := Lib.hid hbl
    have hmx : Tryz.prog.follows .mixedOrders = true := by kernel_rfl
    clear h1 h2 hbl hca hsz hrl hl5 ex I0 KIT hbx hcb hc5
    simp only [Array.getD_eq_getD_getElem?]
    gi_wp2
    change Code.wpIn (Fence.wide.inRound lr) _ _ _ _ _ _
    refine wpIn_region_anyR lr rfl hmx (noDefer_spec (by kernel_rfl)) ?_
    refine wpAnyIn_S (S := fun W' => Below W.heap.size W W') (last := 8) (m := 0) (k := 8) rfl (fun HC0 => ?_)
    have hS0 : Below W.heap.size W { W with drawn := W.drawn + 1 } := bl_drew (bl_refl W)
    obtain ⟨W1, eW1⟩ : ∃ W1 : World, W1 = { W with drawn := W.drawn + 1 } := ⟨_, rfl⟩
    have hz1 : W1.heap.size = W.heap.size := by rw [eW1]
    rw [← eW1] at hS0 ⊢
    clear eW1
    refine wpAnyS_take (i := 0) (kw := 2) (v := .pointer (some ⟨w0.heap.size, 1, none⟩)) rfl rfl (by kernel_rfl) (by kernel_rfl) (by kernel_rfl) (by kernel_rfl) (fun _ _ _ h => h) HC0 hS0 ⟨Or.inl ⟨by rfl, fun W' hs => ?_⟩, fun _ => rfl⟩ (fun HC1 => ?_)
    · go_simp
    refine wpAnyS_take (i := 3) (kw := 2) (v := .pointer (some ⟨w0.heap.size, 0, none⟩)) rfl rfl (by kernel_rfl) (by kernel_rfl) (by kernel_rfl) (by kernel_rfl) (fun _ _ _ h => h) HC1 hS0 ⟨Or.inl ⟨by rfl, fun W' hs => ?_⟩, fun _ => rfl⟩ (fun HC2 => ?_)
    · go_simp
    refine wpAnyS_take (i := 2) (kw := 2) (v := .int .i64 q) rfl rfl (by kernel_rfl) (by kernel_rfl) (by kernel_rfl) (by kernel_rfl) (fun _ _ _ h => h) HC2 hS0 ⟨Or.inl ⟨by rfl, fun W' hs => ?_⟩, fun _ => rfl⟩ (fun HC3 => ?_)
    · have c := ((bcell hs).1 (w0.heap.size + 1) 0 (by omega)).trans cq
      go_simp
    refine wpAnyS_take (i := 5) (kw := 2) (v := .agg #[.int .i64 x0, .int .i64 x1, .int .i64 x2, .int .i64 x3, .int .i64 x4]) rfl rfl (by kernel_rfl) (by kernel_rfl) (by kernel_rfl) (by kernel_rfl) (fun _ _ _ h => h) HC3 hS0 ⟨Or.inl ⟨by rfl, fun W' hs => ?_⟩, fun _ => rfl⟩ (fun HC4 => ?_)
    · have c0 := ((bcell hs).1 W0.heap.size 0 (by omega)).trans y0
      have c1 := ((bcell hs).1 W0.heap.size 1 (by omega)).trans y1
      have c2 := ((bcell hs).1 W0.heap.size 2 (by omega)).trans y2
      have c3 := ((bcell hs).1 W0.heap.size 3 (by omega)).trans y3
      have c4 := ((bcell hs).1 W0.heap.size 4 (by omega)).trans y4
      go_simp
    refine wpAnyS_take (i := 1) (kw := 2) (v := .func (.func 63) #[] #[]) rfl rfl (by kernel_rfl) (by kernel_rfl) (by kernel_rfl) (by kernel_rfl) (fun _ _ _ h => h) HC4 hS0 ⟨Or.inl ⟨by rfl, fun W' hs => ?_⟩, fun _ => rfl⟩ (fun HC5 => ?_)
    · have c := ((bcell hs).1 w0.heap.size 1 (by omega)).trans s1
      go_simp
    refine wpAnyS_take (i := 4) (kw := 2) (v := .func (.method "loop.example/g00910/impl.lowValue") #[.iface 92 (.agg #[])] #[]) rfl rfl (by kernel_rfl) (by kernel_rfl) (by kernel_rfl) (by kernel_rfl) (fun _ _ _ h => h) HC5 hS0 ⟨Or.inl ⟨by rfl, fun W' hs => ?_⟩, fun _ => rfl⟩ (fun HC6 => ?_)
    · have c := ((bcell hs).1 w0.heap.size 0 (by omega)).trans s0
      go_simp
    refine wpAnyS_one HC6 (i := 6) (by kernel_rfl) rfl hS0 (fun K hK => ?_)
    go_simp
    gi_wp2_with (refine ⟨trivial, ?_⟩; gi_at_call 151; refine (callsIn_wide.2 (KV.out _ hS0)).mono ?_; rintro e w6 ⟨rfl, hb6⟩)
    intro HC7
    have hS6 : Below W.heap.size W w6 := hS0.trans (hb6.mono hS0.size)
    refine wpAnyS_one HC7 (i := 7) (by kernel_rfl) rfl hS6 (fun K hK => ?_)
    go_simp
    gi_wp2_with (refine ⟨trivial, ?_⟩; gi_at_call 63; refine (callsIn_wide.2 (KM.out _ _ _)).mono ?_; rintro e w7 ⟨rfl, rfl⟩)
    intro HC8
    have c6 := ((bcell hS6).1 (w0.heap.size + 1) 0 (by omega)).trans cq
    have f6 := ((bcell hS6).2 (w0.heap.size + 1) 0 (by omega)).trans fq
    refine wpAnyS_last (by kernel_rfl) (by kernel_rfl) rfl hS6 (fun K hK => ?_)
    go_simp
    refine hK _ _ ?_
    clear hK K
    have s := blk_setI ((R2.out.below hS6)) 0 (minJ q v)
    gi_wp2
    have up : ∀ {g : Nat} {t : TypeId} {vs : List Value}, Blk W g t vs → g ≠ w0.heap.size + 1 → Blk (w6.setCell ⟨w0.heap.size + 1, 0, none⟩ (.int .i64 (minJ q v))) g t vs := fun hq h1 => (hq.below hS6).grown s.2 (fun e => h1 (Option.some.inj e))
    exact ⟨⟨up R1.out (by omega), by rw [EM.out]; exact s.1, bl_blk (bl_trans R6.out hS6) s.2 (by omega)⟩, (con_below hS6).trans (con_grown s.2 (R2.out.below hS6) (by kernel_rfl))⟩
  case done =>
    rintro D W hD ⟨r1, r2, r6⟩ hK
    generalize mnV V (hRows hs bs l (m + 1 - l)).length = q at *
    obtain ⟨cq, fq⟩ := r2.cell 0 _ rfl
    have R6 := Lib.hid r6
    clear r1 r2 r6
    gi_wp2
    refine ⟨by simp, .inl ⟨_, _, rfl, run_takeDeferred hK, ?_⟩⟩
    exact ⟨_, by simp [results, Tryz.f27, go_sem], rfl, R6.out.trans (putObj_below _ _ _ (by omega) (Array.getElem?_eq_some_iff.1 hK).1)⟩
end Go.Proofs.YtlpkaflmhdgmmaaGreatDoor

/-! A whole variable is stored, inside a fence. -/
namespace Go.Proofs.YtlpkaflmhdgmmaaGreatDoor
open Go.RowKit
set_option linter.unusedVariables false

theorem wpListIn_store_blk {F : Fence} {nF : Nat} {ops : Array Oper} {rest : List Oper} {o : Oper} {a : Act} {w : World} {Q : Exit → Act → World → Prop} (t : TypeId) (n : Nat) (hgd : o.guard = none) (x y : Operand) (ho : o.op = .store t x y)
    (hi : (Tryz.prog.info? t).map (·.size) = some n)
    (g : Nat) (hx : a.eval x = .pointer (some ⟨g, 0, none⟩)) (vs : List Value) (hy : a.eval y = .agg vs.toArray) (hl : vs.length = n) (h1 : ∀ v ∈ vs, v.oneCell' = true) (old : Array Value) (hg : w.heap[g]? = some (.cells old t (0, 0))) (hs : old.size = n)
    (h : ∀ w', Blk w' g t vs → w.grownBy w' (some g) → wpListIn F nF Tryz.prog ops Q rest (a.put o.dst undef) w') : wpListIn F nF Tryz.prog ops Q (o :: rest) a w := by
  refine wpListIn_plain hgd fun K' hK' => ?_
  have hr := run_storeVar_row (P := Tryz.prog) w g t t old vs.toArray hg (by rw [List.size_toArray, hl]; exact hi) (by simp [hl, hs]) (all_oneCell_toArray h1)
  unfold Oper.wpIn
  refine ⟨by simp [Oper.about, ho], ?_⟩
  rw [Oper.semAt_plain F _ _ (by rw [ho]; intro c hc'; cases hc')]
  simp only [execOp, ho, hx, hy, Instr.storeAt, Instr.sureAddr, Sem.run_bind, Sem.run_pure, Result.andThen_ok, hr]
  exact hK' _ _ (h _ (setRow_heap w g old _ _ _ hg) ⟨rfl, rfl, rfl, by simp, fun k hk hne => setRow_other w g k _ (fun e => hne (by rw [e]))⟩)
end Go.Proofs.YtlpkaflmhdgmmaaGreatDoor

/-! firstWith over a variant's hands, by the three scales. -/
namespace Go.Proofs.YtlpkaflmhdgmmaaGreatDoor
open Go.RowKit
set_option linter.unusedVariables false
attribute [local go_sem] Oper.semAt_some

/-- What the rounds of firstWith keep: the scale, the value, the result's variable, the hand at hand. -/
def FSt (w : World) (S : List Value) (x : Int) (L : List (List Int)) (M i : Nat) (W : World) : Prop :=
  Blk W w.heap.size 50 S ∧ Blk W (w.heap.size + 1) 2 (ints [x]) ∧ Blk W (w.heap.size + 1 + 1) 58 (ints [0, 0, 0, 0, 0]) ∧
  (∃ ys : List Int, ys.length = 5 ∧ Blk W (w.heap.size + 1 + 1 + 1) 58 (ints ys) ∧ (i = M + 1 → ys = L.getD M [])) ∧ Below w.heap.size w W
theorem FSt.start (w : World) (S : List Value) (x : Int) (L : List (List Int)) (M : Nat) :
    FSt w S x L M 0 ((((w.alloc (.cells S.toArray 50)).alloc (.cells #[.int .i64 x] 2)).alloc (.cells #[.int .i64 0, .int .i64 0, .int .i64 0, .int .i64 0, .int .i64 0] 58)).alloc (.cells #[.int .i64 0, .int .i64 0, .int .i64 0, .int .i64 0, .int .i64 0] 58)) := by
  have n1 := blk_new (w.alloc (.cells S.toArray 50)) 2 (ints [x])
  have n2 := blk_new ((w.alloc (.cells S.toArray 50)).alloc (.cells #[.int .i64 x] 2)) 58 (ints [0, 0, 0, 0, 0])
  have n3 := blk_new (((w.alloc (.cells S.toArray 50)).alloc (.cells #[.int .i64 x] 2)).alloc (.cells #[.int .i64 0, .int .i64 0, .int .i64 0, .int .i64 0, .int .i64 0] 58)) 58 (ints [0, 0, 0, 0, 0])
  simp only [World.size_alloc] at n1 n2 n3
  have up : ∀ (W : World) (o : Obj) {g : Nat} {t : TypeId} {vs : List Value}, Blk W g t vs → Blk (W.alloc o) g t vs := fun W o _ _ _ h => h.below (bl_alloc (bl_refl W) o)
  exact ⟨up _ _ (up _ _ (up _ _ (blk_new w 50 S))), up _ _ (up _ _ n1), up _ _ n2, ⟨[0, 0, 0, 0, 0], rfl, n3, fun h => by omega⟩, bl_alloc (bl_alloc (bl_alloc (bl_alloc (bl_refl w) _) _) _) _⟩
theorem FSt.itw {w : World} {S : List Value} {x : Int} {L : List (List Int)} {M i n0 : Nat} {A B : World} (h : FSt w S x L M i A) (hn : w.heap.size ≤ n0) (hb : ItW kHands n0 A B) : FSt w S x L M i B := by
  obtain ⟨h1, h2, h3, ⟨ys, h5, h4, hl⟩, h6⟩ := h
  exact ⟨itw_blk hb h1 (by kernel_rfl), itw_blk hb h2 (by kernel_rfl), itw_blk hb h3 (by kernel_rfl), ⟨ys, h5, itw_blk hb h4 (by kernel_rfl), hl⟩, h6.trans (hb.1.mono hn)⟩
/-- The hand is stored. -/
theorem FSt.put {w : World} {S : List Value} {x : Int} {L : List (List Int)} {M i : Nat} {A B : World} (h : FSt w S x L M i A) (hi : i ≤ M) (ys : List Int) (h5 : ys.length = 5) (hb : Blk B (w.heap.size + 1 + 1 + 1) 58 (ints ys)) (hg : A.grownBy B (some (w.heap.size + 1 + 1 + 1))) : Con kHands A B ∧ FSt w S x L M i B := by
  obtain ⟨h1, h2, h3, ⟨zs, _, h4, _⟩, h6⟩ := h
  exact ⟨con_grown hg h4 (by kernel_rfl), h1.grown hg (by simp; omega), h2.grown hg (by simp), h3.grown hg (by simp), ⟨ys, h5, hb, fun e => by omega⟩, bl_blk h6 hg (by omega)⟩
set_option maxRecDepth 100000 in
set_option maxHeartbeats 4000000 in
theorem firstHi_any (A : Option Addr) (c : Nat) (hs : List Int) (A2 : Option Addr) (c2 : Nat) (bs : List Int) (l m b1 b2 b3 : Nat) (hi : Bool) (lo : Int) (B : Nat) (wt w : World) (ht : Hid (Low B wt)) (hB : Hid (Below B wt w)) (hBw : Hid (B ≤ w.heap.size))
    (h1 : Blk w b1 25 [.int .i64 (hs.length : Int), .int .i64 (l : Int), .int .i64 (m : Int), .int .i64 (bs.length : Int), .bool hi, .int .i64 lo]) (h2 : Blk w b2 26 [.slice A hs.length c]) (h3 : Blk w b3 26 [.slice A2 bs.length c2])
    (hr : Rd w A hs) (hr2 : Rd w A2 bs) (hh : hs.length ≤ 7) (hb7 : bs.length ≤ 7) (hlm : l ≤ m) (hm5 : m ≤ 5) (hc : cardsB (hs ++ bs) = true)
    (M : Nat) (hM : M < (hRows hs bs l (m + 1 - l)).length) (x : Int) (hx : hv ((hRows hs bs l (m + 1 - l)).getD M []) = x) (hne : ∀ k, k < M → hv ((hRows hs bs l (m + 1 - l)).getD k []) ≠ x) :
    Calls Tryz.prog 29 #[hiScale, .int .i64 x, .func (.func 50) #[] #[.pointer (some ⟨b1, 0, none⟩), .pointer (some ⟨b2, 0, none⟩), .pointer (some ⟨b3, 0, none⟩)]] w (Fresh (aggI ((hRows hs bs l (m + 1 - l)).getD M [])) w) := by
  have HC := Lib.hid (hRows_cards_at hs bs l (m + 1 - l) (by omega) hc)
  have RB := Lib.hid (And.intro hr hr2)
  have P1 := Lib.hid h1
  have P2 := Lib.hid h2
  have P3 := Lib.hid h3
  have L1 := h1.lt
  have L2 := h2.lt
  have L3 := h3.lt
  clear hr hr2 h1 h2 h3 hc
  unfold hiScale
  refine (callsIn_wide (n := 10)).1 ?_
  refine callsIn_of_wp_marks Tryz.func29 rfl trivial ?_ rfl
  simp only [Tryz.ntmps29, List.size_toArray, List.length_cons, List.length_nil, Nat.reduceAdd, Nat.reduceSub, Array.replicate_succ, Array.replicate_zero, List.push_toArray, List.append_toArray, List.nil_append, List.cons_append]
  obtain ⟨w0, rfl⟩ : ∃ w0 : World, w0 = w := ⟨w, rfl⟩
  gi_wp2
  obtain ⟨W4, eW4⟩ : ∃ W4, W4 = ((((w0.alloc (.cells #[.func (.func 39) #[] #[], .func (.func 62) #[] #[], .int .i64 (-9223372036854775808)] 50)).alloc (.cells #[.int .i64 x] 2)).alloc (.cells #[.int .i64 0, .int .i64 0, .int .i64 0, .int .i64 0, .int .i64 0] 58)).alloc (.cells #[.int .i64 0, .int .i64 0, .int .i64 0, .int .i64 0, .int .i64 0] 58)) := ⟨_, rfl⟩
  have I0 : Hid (FSt w0 (scL (.func 39) #[] 62 (-9223372036854775808)) x (hRows hs bs l (m + 1 - l)) M 0 W4) := Lib.hid (by rw [eW4]; exact FSt.start w0 (scL (.func 39) #[] 62 (-9223372036854775808)) x (hRows hs bs l (m + 1 - l)) M)
  have hz4 : W4.heap.size = w0.heap.size + 1 + 1 + 1 + 1 := by rw [eW4]; simp
  rw [← eW4]
  clear eW4
  have KIT := handsX_any 9 A c hs A2 c2 bs l m b1 b2 b3 hh hb7 hlm hm5 M hM (FSt w0 (scL (.func 39) #[] 62 (-9223372036854775808)) x (hRows hs bs l (m + 1 - l)) M) W4 (by omega)
    (fun i W h => by
      have hb := h.2.2.2.2
      exact ⟨((P1.out.below hb).cell 1 _ rfl).1, ((P1.out.below hb).cell 2 _ rfl).1, ((P2.out.below hb).cell 0 _ rfl).1, ((P3.out.below hb).cell 0 _ rfl).1, RB.out.1.below hb, RB.out.2.below hb⟩)
  refine wpIn_rangeX (e0 := .exit 0) (j := .exit 0) rfl (by omega) (gf := 50) (lb := #[.pointer (some ⟨b1, 0, none⟩), .pointer (some ⟨b2, 0, none⟩), .pointer (some ⟨b3, 0, none⟩)]) rfl trivial (enters_of Tryz.func50 (by kernel_rfl) rfl)
    (.inr ⟨_, rfl, rfl⟩) KIT (fun i W' ar h => by obtain ⟨rfl, _⟩ := h; rfl) (fun i A' B' ar h _ => h)
    (fun i A' B' h hb' => h.itw (by omega) hb') I0.out
    (fun ar W' => { tmps := #[.agg #[.func (.func 39) #[] #[], .func (.func 62) #[] #[], .int .i64 (-9223372036854775808)], .int .i64 x, .func (.func 50) #[] #[.pointer (some ⟨b1, 0, none⟩), .pointer (some ⟨b2, 0, none⟩), .pointer (some ⟨b3, 0, none⟩)], .pointer (some ⟨w0.heap.size, 0, none⟩), .pointer (some ⟨w0.heap.size + 1, 0, none⟩), undef, .pointer (some ⟨w0.heap.size + 1 + 1, 0, none⟩), .pointer (some ⟨w0.heap.size + 1 + 1 + 1, 0, none⟩), .func (.func 50) #[] #[.pointer (some ⟨b1, 0, none⟩), .pointer (some ⟨b2, 0, none⟩), .pointer (some ⟨b3, 0, none⟩)], ar.getD 0 undef, undef, undef, undef, undef, undef, undef, undef], defers := [] })
    (fun ar W' W'' => Blk W'' (w0.heap.size + 1 + 1 + 1) 58 (cellsV6 (ar.getD 0 undef)).toList ∧ W'.grownBy W'' (some (w0.heap.size + 1 + 1 + 1)))
    (fun i ar W' W'' hi1 hw hI hY hRA => by
      obtain ⟨rfl, hl5⟩ := hY
      obtain ⟨hc1, hf1⟩ := hI.put hi1 _ hl5 hRA.1 hRA.2
      exact ⟨hc1, hf1, rfl, hl5⟩) ?assign ?body ?last ?done
  case assign =>
    rintro lr i ar W' Kc hw ⟨h1, h2, h3, ⟨ys, hy5, h4, hyl⟩, hbl⟩ ⟨rfl, h5⟩ hKc
    have HK := Lib.hid hKc
    have H4 := Lib.hid h4
    clear hKc h1 h2 h3 h4 hyl hbl I0 KIT
    obtain ⟨x0, x1, x2, x3, x4, ex⟩ := list_five _ h5
    obtain ⟨z0, z1, z2, z3, z4, ez⟩ := list_five _ hy5
    rw [ez] at H4
    rw [ex] at HK ⊢
    clear ex h5 ez hy5
    simp only [aggI, ints, List.map_cons, List.map_nil] at HK ⊢
    gi_wp2_with (refine wpListIn_store_blk 58 5 rfl (.tmp 7) (.tmp 9) rfl i51 (w0.heap.size + 1 + 1 + 1) (by simp [Act.eval]) (ints [x0, x1, x2, x3, x4]) (by simp [Act.eval, ints]) rfl (ints_one _) _ H4.out rfl ?_)
    intro w5 hb5 hg5
    gi_wp2
    exact HK.out _ ⟨hb5, hg5⟩
  case body =>
    rintro lr i ar W0 Wa W hRA hi0 hI ⟨rfl, hl5⟩ hgl hrl hW0 hca hsz
    have hi1 : i < (hRows hs bs l (m + 1 - l)).length := Nat.lt_trans hi0 hM
    obtain ⟨hcb, hc5⟩ := HC.out i hi1
    obtain ⟨h1, h2, h3, ⟨ys, hy5, h4, hyl⟩, hbl⟩ := hI
    have KV := Lib.hid (fun (W' : World) (hb' : Below W.heap.size W W') => fiveValue_any ((hRows hs bs l (m + 1 - l)).getD i []) hcb hc5 B wt W' ht (Lib.hid (hB.out.trans ((hbl.trans (hb'.mono hbl.size)).mono hBw.out))) (Lib.hid (Nat.le_trans hBw.out (Nat.le_trans hbl.size hb'.size))))
    obtain ⟨v, ev⟩ : ∃ v, v = hv ((hRows hs bs l (m + 1 - l)).getD i []) := ⟨_, rfl⟩
    rw [← ev] at KV
    have hvx : (v == x) = false := by rw [ev]; simpa using hne i hi0
    clear ev
    obtain ⟨x0, x1, x2, x3, x4, ex⟩ := list_five _ hl5
    rw [ex] at hRA KV
    unfold aggI at KV
    have hbx : Blk W (w0.heap.size + 1 + 1 + 1) 58 (ints [x0, x1, x2, x3, x4]) := hca _ _ _ _ hRA.1
    have y0 := (hbx.cell 0 _ rfl).1
    have y1 := (hbx.cell 1 _ rfl).1
    have y2 := (hbx.cell 2 _ rfl).1
    have y3 := (hbx.cell 3 _ rfl).1
    have y4 := (hbx.cell 4 _ rfl).1
    have s0 := (h1.cell 0 _ rfl).1
    have cx := (h2.cell 0 _ rfl).1
    have gbx := hbx.lt
    have g1 := h1.lt
    have g2 := h2.lt
    have EX := Lib.hid ex
    have R1 := Lib.hid h1
    have R2 := Lib.hid h2
    have R3 := Lib.hid h3
    have R4 := Lib.hid hbx
    have R6 := Lib.hid hbl
    have hmx : Tryz.prog.follows .mixedOrders = true := by kernel_rfl
    clear h1 h2 h3 h4 hyl hbl hca hsz hrl hl5 ex I0 KIT hbx hcb hc5 hRA hy5
    simp only [Array.getD_eq_getD_getElem?]
    gi_wp2
    change Code.wpIn (Fence.wide.inRound lr) _ _ _ _ _ _
    refine wpIn_region_anyR lr rfl hmx (noDefer_spec (by kernel_rfl)) ?_
    refine wpAnyIn_S (S := fun W' => Below W.heap.size W W') (last := 5) (m := 0) (k := 5) rfl (fun HC0 => ?_)
    have hS0 : Below W.heap.size W { W with drawn := W.drawn + 1 } := bl_drew (bl_refl W)
    obtain ⟨W1', eW1⟩ : ∃ W1' : World, W1' = { W with drawn := W.drawn + 1 } := ⟨_, rfl⟩
    have hz1 : W1'.heap.size = W.heap.size := by rw [eW1]
    rw [← eW1] at hS0 ⊢
    clear eW1
    refine wpAnyS_take (i := 0) (kw := 4) (v := .pointer (some ⟨w0.heap.size, 0, none⟩)) rfl rfl (by kernel_rfl) (by kernel_rfl) (by kernel_rfl) (by kernel_rfl) (fun _ _ _ h => h) HC0 hS0 ⟨Or.inl ⟨by rfl, fun W' hs => ?_⟩, fun _ => rfl⟩ (fun HC1 => ?_)
    · go_simp
    refine wpAnyS_take (i := 1) (kw := 4) (v := .func (.func 39) #[] #[]) rfl rfl (by kernel_rfl) (by kernel_rfl) (by kernel_rfl) (by kernel_rfl) (fun _ _ _ h => h) HC1 hS0 ⟨Or.inl ⟨by rfl, fun W' hs => ?_⟩, fun _ => rfl⟩ (fun HC2 => ?_)
    · have c := ((bcell hs).1 w0.heap.size 0 (by omega)).trans s0
      go_simp
    refine wpAnyS_take (i := 2) (kw := 4) (v := .agg #[.int .i64 x0, .int .i64 x1, .int .i64 x2, .int .i64 x3, .int .i64 x4]) rfl rfl (by kernel_rfl) (by kernel_rfl) (by kernel_rfl) (by kernel_rfl) (fun _ _ _ h => h) HC2 hS0 ⟨Or.inl ⟨by rfl, fun W' hs => ?_⟩, fun _ => rfl⟩ (fun HC3 => ?_)
    · have c0 := ((bcell hs).1 (w0.heap.size + 1 + 1 + 1) 0 (by omega)).trans y0
      have c1 := ((bcell hs).1 (w0.heap.size + 1 + 1 + 1) 1 (by omega)).trans y1
      have c2 := ((bcell hs).1 (w0.heap.size + 1 + 1 + 1) 2 (by omega)).trans y2
      have c3 := ((bcell hs).1 (w0.heap.size + 1 + 1 + 1) 3 (by omega)).trans y3
      have c4 := ((bcell hs).1 (w0.heap.size + 1 + 1 + 1) 4 (by omega)).trans y4
      go_simp
    refine wpAnyS_take (i := 4) (kw := 4) (v := .int .i64 x) rfl rfl (by kernel_rfl) (by kernel_rfl) (by kernel_rfl) (by kernel_rfl) (fun _ _ _ h => h) HC3 hS0 ⟨Or.inl ⟨by rfl, fun W' hs => ?_⟩, fun _ => rfl⟩ (fun HC4 => ?_)
    · have c := ((bcell hs).1 (w0.heap.size + 1) 0 (by omega)).trans cx
      go_simp
    refine wpAnyS_one HC4 (i := 3) (by kernel_rfl) rfl hS0 (fun K hK => ?_)
    go_simp
    gi_wp2_with (refine ⟨trivial, ?_⟩; gi_at_call 39; refine (callsIn_wide.2 (KV.out _ hS0)).mono ?_; rintro e w6 ⟨rfl, hb6⟩)
    intro HC6
    have hS6 : Below W.heap.size W w6 := hS0.trans (hb6.mono hS0.size)
    refine wpAnyS_last (by kernel_rfl) (by kernel_rfl) rfl hS6 (fun K hK => ?_)
    go_simp
    refine hK _ _ ?_
    clear hK K
    gi_wp2
    exact ⟨⟨R1.out.below hS6, R2.out.below hS6, R3.out.below hS6, ⟨[x0, x1, x2, x3, x4], rfl, R4.out.below hS6, fun e => by omega⟩, bl_trans R6.out hS6⟩, con_below hS6⟩
  case last =>
    rintro lr ar W0 Wa W hRA hI ⟨rfl, hl5⟩ hgl hrl hW0 hca hsz
    obtain ⟨i, ei⟩ : ∃ i, i = M := ⟨_, rfl⟩
    rw [← ei] at hRA hl5 hI
    have hi1 : i < (hRows hs bs l (m + 1 - l)).length := by rw [ei]; exact hM
    have EI := Lib.hid ei
    obtain ⟨hcb, hc5⟩ := HC.out i hi1
    obtain ⟨h1, h2, h3, ⟨ys, hy5, h4, hyl⟩, hbl⟩ := hI
    have KV := Lib.hid (fun (W' : World) (hb' : Below W.heap.size W W') => fiveValue_any ((hRows hs bs l (m + 1 - l)).getD i []) hcb hc5 B wt W' ht (Lib.hid (hB.out.trans ((hbl.trans (hb'.mono hbl.size)).mono hBw.out))) (Lib.hid (Nat.le_trans hBw.out (Nat.le_trans hbl.size hb'.size))))
    obtain ⟨v, ev⟩ : ∃ v, v = hv ((hRows hs bs l (m + 1 - l)).getD i []) := ⟨_, rfl⟩
    rw [← ev] at KV
    have hvx : x = v := by rw [ev, ei]; exact hx.symm
    subst hvx
    clear ev
    obtain ⟨x0, x1, x2, x3, x4, ex⟩ := list_five _ hl5
    rw [ex] at hRA KV
    unfold aggI at KV
    have hbx : Blk W (w0.heap.size + 1 + 1 + 1) 58 (ints [x0, x1, x2, x3, x4]) := hca _ _ _ _ hRA.1
    have y0 := (hbx.cell 0 _ rfl).1
    have y1 := (hbx.cell 1 _ rfl).1
    have y2 := (hbx.cell 2 _ rfl).1
    have y3 := (hbx.cell 3 _ rfl).1
    have y4 := (hbx.cell 4 _ rfl).1
    have s0 := (h1.cell 0 _ rfl).1
    have cx := (h2.cell 0 _ rfl).1
    have gbx := hbx.lt
    have g1 := h1.lt
    have g2 := h2.lt
    have EX := Lib.hid ex
    have R1 := Lib.hid h1
    have R2 := Lib.hid h2
    have R3 := Lib.hid h3
    have R4 := Lib.hid hbx
    have R6 := Lib.hid hbl
    have hmx : Tryz.prog.follows .mixedOrders = true := by kernel_rfl
    clear h1 h2 h3 h4 hyl hbl hca hsz hrl hl5 ex I0 KIT hbx hcb hc5 hRA hy5
    simp only [Array.getD_eq_getD_getElem?]
    gi_wp2
    change Code.wpIn (Fence.wide.inRound lr) _ _ _ _ _ _
    refine wpIn_region_anyR lr rfl hmx (noDefer_spec (by kernel_rfl)) ?_
    refine wpAnyIn_S (S := fun W' => Below W.heap.size W W') (last := 5) (m := 0) (k := 5) rfl (fun HC0 => ?_)
    have hS0 : Below W.heap.size W { W with drawn := W.drawn + 1 } := bl_drew (bl_refl W)
    obtain ⟨W1', eW1⟩ : ∃ W1' : World, W1' = { W with drawn := W.drawn + 1 } := ⟨_, rfl⟩
    have hz1 : W1'.heap.size = W.heap.size := by rw [eW1]
    rw [← eW1] at hS0 ⊢
    clear eW1
    refine wpAnyS_take (i := 0) (kw := 4) (v := .pointer (some ⟨w0.heap.size, 0, none⟩)) rfl rfl (by kernel_rfl) (by kernel_rfl) (by kernel_rfl) (by kernel_rfl) (fun _ _ _ h => h) HC0 hS0 ⟨Or.inl ⟨by rfl, fun W' hs => ?_⟩, fun _ => rfl⟩ (fun HC1 => ?_)
    · go_simp
    refine wpAnyS_take (i := 1) (kw := 4) (v := .func (.func 39) #[] #[]) rfl rfl (by kernel_rfl) (by kernel_rfl) (by kernel_rfl) (by kernel_rfl) (fun _ _ _ h => h) HC1 hS0 ⟨Or.inl ⟨by rfl, fun W' hs => ?_⟩, fun _ => rfl⟩ (fun HC2 => ?_)
    · have c := ((bcell hs).1 w0.heap.size 0 (by omega)).trans s0
      go_simp
    refine wpAnyS_take (i := 2) (kw := 4) (v := .agg #[.int .i64 x0, .int .i64 x1, .int .i64 x2, .int .i64 x3, .int .i64 x4]) rfl rfl (by kernel_rfl) (by kernel_rfl) (by kernel_rfl) (by kernel_rfl) (fun _ _ _ h => h) HC2 hS0 ⟨Or.inl ⟨by rfl, fun W' hs => ?_⟩, fun _ => rfl⟩ (fun HC3 => ?_)
    · have c0 := ((bcell hs).1 (w0.heap.size + 1 + 1 + 1) 0 (by omega)).trans y0
      have c1 := ((bcell hs).1 (w0.heap.size + 1 + 1 + 1) 1 (by omega)).trans y1
      have c2 := ((bcell hs).1 (w0.heap.size + 1 + 1 + 1) 2 (by omega)).trans y2
      have c3 := ((bcell hs).1 (w0.heap.size + 1 + 1 + 1) 3 (by omega)).trans y3
      have c4 := ((bcell hs).1 (w0.heap.size + 1 + 1 + 1) 4 (by omega)).trans y4
      go_simp
    refine wpAnyS_take (i := 4) (kw := 4) (v := .int .i64 x) rfl rfl (by kernel_rfl) (by kernel_rfl) (by kernel_rfl) (by kernel_rfl) (fun _ _ _ h => h) HC3 hS0 ⟨Or.inl ⟨by rfl, fun W' hs => ?_⟩, fun _ => rfl⟩ (fun HC4 => ?_)
    · have c := ((bcell hs).1 (w0.heap.size + 1) 0 (by omega)).trans cx
      go_simp
    refine wpAnyS_one HC4 (i := 3) (by kernel_rfl) rfl hS0 (fun K hK => ?_)
    go_simp
    gi_wp2_with (refine ⟨trivial, ?_⟩; gi_at_call 39; refine (callsIn_wide.2 (KV.out _ hS0)).mono ?_; rintro e w6 ⟨rfl, hb6⟩)
    intro HC6
    have hS6 : Below W.heap.size W w6 := hS0.trans (hb6.mono hS0.size)
    refine wpAnyS_last (by kernel_rfl) (by kernel_rfl) rfl hS6 (fun K hK => ?_)
    go_simp
    refine hK _ _ ?_
    clear hK K
    gi_wp2
    exact ⟨rfl, ⟨R1.out.below hS6, R2.out.below hS6, R3.out.below hS6, ⟨[x0, x1, x2, x3, x4], rfl, R4.out.below hS6, fun _ => by rw [← EX.out, EI.out]⟩, bl_trans R6.out hS6⟩, (con_below hS6).x _⟩
  case done =>
    rintro D W hD ⟨h1, h2, h3, ⟨ys, hy5, h4, hyl⟩, hbl⟩ hK
    obtain ⟨x0, x1, x2, x3, x4, ex⟩ := list_five _ hy5
    have EE := Lib.hid ((hyl rfl).symm.trans ex)
    rw [ex] at h4
    have H3 := Lib.hid h3
    have H4 := Lib.hid h4
    have R6 := Lib.hid hbl
    have HKD := Lib.hid hK
    clear h1 h2 h3 h4 hyl hbl hK I0 KIT hy5 ex
    obtain ⟨y0, _⟩ := H4.out.cell 0 _ rfl
    obtain ⟨y1, _⟩ := H4.out.cell 1 _ rfl
    obtain ⟨y2, _⟩ := H4.out.cell 2 _ rfl
    obtain ⟨y3, _⟩ := H4.out.cell 3 _ rfl
    obtain ⟨y4, _⟩ := H4.out.cell 4 _ rfl
    gi_wp2_with (refine wpListIn_store_blk 58 5 rfl (.tmp 6) (.tmp 16) rfl i51 (w0.heap.size + 1 + 1) rfl (ints [x0, x1, x2, x3, x4]) rfl rfl (ints_one _) _ H3.out rfl ?_)
    intro w5 hb5 hg5
    obtain ⟨g0, _⟩ := hb5.cell 0 _ rfl
    obtain ⟨g1, _⟩ := hb5.cell 1 _ rfl
    obtain ⟨g2, _⟩ := hb5.cell 2 _ rfl
    obtain ⟨g3, _⟩ := hb5.cell 3 _ rfl
    obtain ⟨g4, _⟩ := hb5.cell 4 _ rfl
    have hk5 : w5.heap[D]? = some (Obj.deferred (some [])) := (hg5.block D (Array.getElem?_eq_some_iff.1 HKD.out).1 (fun e => by have e' := Option.some.inj e; omega)).trans HKD.out
    gi_wp2
    refine ⟨by simp, .inl ⟨_, _, rfl, run_takeDeferred hk5, ?_⟩⟩
    have hput : ∀ k, (w5.putObj D (.deferred none)).cell? ⟨w0.heap.size + 1 + 1, k, none⟩ = w5.cell? ⟨w0.heap.size + 1 + 1, k, none⟩ := fun k => by
      unfold World.cell?
      rw [World.putObj_heap_other (show w0.heap.size + 1 + 1 ≠ D by omega)]
    exact ⟨aggI ((hRows hs bs l (m + 1 - l)).getD M []), by rw [EE.out]; simp [aggI, ints, results, Tryz.f29, go_sem, hput, g0, g1, g2, g3, g4], rfl, (bl_blk R6.out hg5 (by omega)).trans (putObj_below _ _ _ (by omega) (Array.getElem?_eq_some_iff.1 hk5).1)⟩
set_option maxRecDepth 100000 in
set_option maxHeartbeats 4000000 in
theorem firstAce_any (A : Option Addr) (c : Nat) (hs : List Int) (A2 : Option Addr) (c2 : Nat) (bs : List Int) (l m b1 b2 b3 : Nat) (hi : Bool) (lo : Int) (B : Nat) (wt w : World) (ht : Hid (Low B wt)) (hB : Hid (Below B wt w)) (hBw : Hid (B ≤ w.heap.size))
    (h1 : Blk w b1 25 [.int .i64 (hs.length : Int), .int .i64 (l : Int), .int .i64 (m : Int), .int .i64 (bs.length : Int), .bool hi, .int .i64 lo]) (h2 : Blk w b2 26 [.slice A hs.length c]) (h3 : Blk w b3 26 [.slice A2 bs.length c2])
    (hr : Rd w A hs) (hr2 : Rd w A2 bs) (hh : hs.length ≤ 7) (hb7 : bs.length ≤ 7) (hlm : l ≤ m) (hm5 : m ≤ 5) (hc : cardsB (hs ++ bs) = true)
    (M : Nat) (hM : M < (hRows hs bs l (m + 1 - l)).length) (x : Int) (hx : aceS ((hRows hs bs l (m + 1 - l)).getD M []) = x) (hne : ∀ k, k < M → aceS ((hRows hs bs l (m + 1 - l)).getD k []) ≠ x) :
    Calls Tryz.prog 29 #[aceV, .int .i64 x, .func (.func 50) #[] #[.pointer (some ⟨b1, 0, none⟩), .pointer (some ⟨b2, 0, none⟩), .pointer (some ⟨b3, 0, none⟩)]] w (Fresh (aggI ((hRows hs bs l (m + 1 - l)).getD M [])) w) := by
  have HC := Lib.hid (hRows_cards_at hs bs l (m + 1 - l) (by omega) hc)
  have RB := Lib.hid (And.intro hr hr2)
  have P1 := Lib.hid h1
  have P2 := Lib.hid h2
  have P3 := Lib.hid h3
  have L1 := h1.lt
  have L2 := h2.lt
  have L3 := h3.lt
  clear hr hr2 h1 h2 h3 hc
  have hm' : ∀ W : World, (method 262 71 (.agg #[]) "loop.example/g00910/impl.lowValue").run Tryz.prog W = .ok (146, .agg #[]) W := fun _ => by kernel_rfl
  have hna : ∀ W : World, (nilAhead 262 71 (.agg #[]) "loop.example/g00910/impl.lowValue").run Tryz.prog W = .ok (some false) W := fun _ => by kernel_rfl
  unfold aceV scV lowF
  refine (callsIn_wide (n := 10)).1 ?_
  refine callsIn_of_wp_marks Tryz.func29 rfl trivial ?_ rfl
  simp only [Tryz.ntmps29, List.size_toArray, List.length_cons, List.length_nil, Nat.reduceAdd, Nat.reduceSub, Array.replicate_succ, Array.replicate_zero, List.push_toArray, List.append_toArray, List.nil_append, List.cons_append]
  obtain ⟨w0, rfl⟩ : ∃ w0 : World, w0 = w := ⟨w, rfl⟩
  gi_wp2
  obtain ⟨W4, eW4⟩ : ∃ W4, W4 = ((((w0.alloc (.cells #[.func (.method "loop.example/g00910/impl.lowValue") #[.iface 71 (.agg #[])] #[], .func (.func 63) #[] #[], .int .i64 9223372036854775807] 50)).alloc (.cells #[.int .i64 x] 2)).alloc (.cells #[.int .i64 0, .int .i64 0, .int .i64 0, .int .i64 0, .int .i64 0] 58)).alloc (.cells #[.int .i64 0, .int .i64 0, .int .i64 0, .int .i64 0, .int .i64 0] 58)) := ⟨_, rfl⟩
  have I0 : Hid (FSt w0 (scL (.method "loop.example/g00910/impl.lowValue") #[.iface 71 (.agg #[])] 63 9223372036854775807) x (hRows hs bs l (m + 1 - l)) M 0 W4) := Lib.hid (by rw [eW4]; exact FSt.start w0 (scL (.method "loop.example/g00910/impl.lowValue") #[.iface 71 (.agg #[])] 63 9223372036854775807) x (hRows hs bs l (m + 1 - l)) M)
  have hz4 : W4.heap.size = w0.heap.size + 1 + 1 + 1 + 1 := by rw [eW4]; simp
  rw [← eW4]
  clear eW4
  have KIT := handsX_any 9 A c hs A2 c2 bs l m b1 b2 b3 hh hb7 hlm hm5 M hM (FSt w0 (scL (.method "loop.example/g00910/impl.lowValue") #[.iface 71 (.agg #[])] 63 9223372036854775807) x (hRows hs bs l (m + 1 - l)) M) W4 (by omega)
    (fun i W h => by
      have hb := h.2.2.2.2
      exact ⟨((P1.out.below hb).cell 1 _ rfl).1, ((P1.out.below hb).cell 2 _ rfl).1, ((P2.out.below hb).cell 0 _ rfl).1, ((P3.out.below hb).cell 0 _ rfl).1, RB.out.1.below hb, RB.out.2.below hb⟩)
  refine wpIn_rangeX (e0 := .exit 0) (j := .exit 0) rfl (by omega) (gf := 50) (lb := #[.pointer (some ⟨b1, 0, none⟩), .pointer (some ⟨b2, 0, none⟩), .pointer (some ⟨b3, 0, none⟩)]) rfl trivial (enters_of Tryz.func50 (by kernel_rfl) rfl)
    (.inr ⟨_, rfl, rfl⟩) KIT (fun i W' ar h => by obtain ⟨rfl, _⟩ := h; rfl) (fun i A' B' ar h _ => h)
    (fun i A' B' h hb' => h.itw (by omega) hb') I0.out
    (fun ar W' => { tmps := #[.agg #[.func (.method "loop.example/g00910/impl.lowValue") #[.iface 71 (.agg #[])] #[], .func (.func 63) #[] #[], .int .i64 9223372036854775807], .int .i64 x, .func (.func 50) #[] #[.pointer (some ⟨b1, 0, none⟩), .pointer (some ⟨b2, 0, none⟩), .pointer (some ⟨b3, 0, none⟩)], .pointer (some ⟨w0.heap.size, 0, none⟩), .pointer (some ⟨w0.heap.size + 1, 0, none⟩), undef, .pointer (some ⟨w0.heap.size + 1 + 1, 0, none⟩), .pointer (some ⟨w0.heap.size + 1 + 1 + 1, 0, none⟩), .func (.func 50) #[] #[.pointer (some ⟨b1, 0, none⟩), .pointer (some ⟨b2, 0, none⟩), .pointer (some ⟨b3, 0, none⟩)], ar.getD 0 undef, undef, undef, undef, undef, undef, undef, undef], defers := [] })
    (fun ar W' W'' => Blk W'' (w0.heap.size + 1 + 1 + 1) 58 (cellsV6 (ar.getD 0 undef)).toList ∧ W'.grownBy W'' (some (w0.heap.size + 1 + 1 + 1)))
    (fun i ar W' W'' hi1 hw hI hY hRA => by
      obtain ⟨rfl, hl5⟩ := hY
      obtain ⟨hc1, hf1⟩ := hI.put hi1 _ hl5 hRA.1 hRA.2
      exact ⟨hc1, hf1, rfl, hl5⟩) ?assign ?body ?last ?done
  case assign =>
    rintro lr i ar W' Kc hw ⟨h1, h2, h3, ⟨ys, hy5, h4, hyl⟩, hbl⟩ ⟨rfl, h5⟩ hKc
    have HK := Lib.hid hKc
    have H4 := Lib.hid h4
    clear hKc h1 h2 h3 h4 hyl hbl I0 KIT
    obtain ⟨x0, x1, x2, x3, x4, ex⟩ := list_five _ h5
    obtain ⟨z0, z1, z2, z3, z4, ez⟩ := list_five _ hy5
    rw [ez] at H4
    rw [ex] at HK ⊢
    clear ex h5 ez hy5
    simp only [aggI, ints, List.map_cons, List.map_nil] at HK ⊢
    gi_wp2_with (refine wpListIn_store_blk 58 5 rfl (.tmp 7) (.tmp 9) rfl i51 (w0.heap.size + 1 + 1 + 1) (by simp [Act.eval]) (ints [x0, x1, x2, x3, x4]) (by simp [Act.eval, ints]) rfl (ints_one _) _ H4.out rfl ?_)
    intro w5 hb5 hg5
    gi_wp2
    exact HK.out _ ⟨hb5, hg5⟩
  case body =>
    rintro lr i ar W0 Wa W hRA hi0 hI ⟨rfl, hl5⟩ hgl hrl hW0 hca hsz
    have hi1 : i < (hRows hs bs l (m + 1 - l)).length := Nat.lt_trans hi0 hM
    obtain ⟨hcb, hc5⟩ := HC.out i hi1
    obtain ⟨h1, h2, h3, ⟨ys, hy5, h4, hyl⟩, hbl⟩ := hI
    have KV := Lib.hid (fun (W' : World) (hb' : Below W.heap.size W W') => aceValue_any ((hRows hs bs l (m + 1 - l)).getD i []) W' hcb hc5)
    obtain ⟨v, ev⟩ : ∃ v, v = aceS ((hRows hs bs l (m + 1 - l)).getD i []) := ⟨_, rfl⟩
    rw [← ev] at KV
    have hvx : (v == x) = false := by rw [ev]; simpa using hne i hi0
    clear ev
    obtain ⟨x0, x1, x2, x3, x4, ex⟩ := list_five _ hl5
    rw [ex] at hRA KV
    unfold aggI at KV
    have hbx : Blk W (w0.heap.size + 1 + 1 + 1) 58 (ints [x0, x1, x2, x3, x4]) := hca _ _ _ _ hRA.1
    have y0 := (hbx.cell 0 _ rfl).1
    have y1 := (hbx.cell 1 _ rfl).1
    have y2 := (hbx.cell 2 _ rfl).1
    have y3 := (hbx.cell 3 _ rfl).1
    have y4 := (hbx.cell 4 _ rfl).1
    have s0 := (h1.cell 0 _ rfl).1
    have cx := (h2.cell 0 _ rfl).1
    have gbx := hbx.lt
    have g1 := h1.lt
    have g2 := h2.lt
    have EX := Lib.hid ex
    have R1 := Lib.hid h1
    have R2 := Lib.hid h2
    have R3 := Lib.hid h3
    have R4 := Lib.hid hbx
    have R6 := Lib.hid hbl
    have hmx : Tryz.prog.follows .mixedOrders = true := by kernel_rfl
    clear h1 h2 h3 h4 hyl hbl hca hsz hrl hl5 ex I0 KIT hbx hcb hc5 hRA hy5
    simp only [Array.getD_eq_getD_getElem?]
    gi_wp2
    change Code.wpIn (Fence.wide.inRound lr) _ _ _ _ _ _
    refine wpIn_region_anyR lr rfl hmx (noDefer_spec (by kernel_rfl)) ?_
    refine wpAnyIn_S (S := fun W' => Below W.heap.size W W') (last := 5) (m := 0) (k := 5) rfl (fun HC0 => ?_)
    have hS0 : Below W.heap.size W { W with drawn := W.drawn + 1 } := bl_drew (bl_refl W)
    obtain ⟨W1', eW1⟩ : ∃ W1' : World, W1' = { W with drawn := W.drawn + 1 } := ⟨_, rfl⟩
    have hz1 : W1'.heap.size = W.heap.size := by rw [eW1]
    rw [← eW1] at hS0 ⊢
    clear eW1
    refine wpAnyS_take (i := 0) (kw := 4) (v := .pointer (some ⟨w0.heap.size, 0, none⟩)) rfl rfl (by kernel_rfl) (by kernel_rfl) (by kernel_rfl) (by kernel_rfl) (fun _ _ _ h => h) HC0 hS0 ⟨Or.inl ⟨by rfl, fun W' hs => ?_⟩, fun _ => rfl⟩ (fun HC1 => ?_)
    · go_simp
    refine wpAnyS_take (i := 1) (kw := 4) (v := .func (.method "loop.example/g00910/impl.lowValue") #[.iface 71 (.agg #[])] #[]) rfl rfl (by kernel_rfl) (by kernel_rfl) (by kernel_rfl) (by kernel_rfl) (fun _ _ _ h => h) HC1 hS0 ⟨Or.inl ⟨by rfl, fun W' hs => ?_⟩, fun _ => rfl⟩ (fun HC2 => ?_)
    · have c := ((bcell hs).1 w0.heap.size 0 (by omega)).trans s0
      go_simp
    refine wpAnyS_take (i := 2) (kw := 4) (v := .agg #[.int .i64 x0, .int .i64 x1, .int .i64 x2, .int .i64 x3, .int .i64 x4]) rfl rfl (by kernel_rfl) (by kernel_rfl) (by kernel_rfl) (by kernel_rfl) (fun _ _ _ h => h) HC2 hS0 ⟨Or.inl ⟨by rfl, fun W' hs => ?_⟩, fun _ => rfl⟩ (fun HC3 => ?_)
    · have c0 := ((bcell hs).1 (w0.heap.size + 1 + 1 + 1) 0 (by omega)).trans y0
      have c1 := ((bcell hs).1 (w0.heap.size + 1 + 1 + 1) 1 (by omega)).trans y1
      have c2 := ((bcell hs).1 (w0.heap.size + 1 + 1 + 1) 2 (by omega)).trans y2
      have c3 := ((bcell hs).1 (w0.heap.size + 1 + 1 + 1) 3 (by omega)).trans y3
      have c4 := ((bcell hs).1 (w0.heap.size + 1 + 1 + 1) 4 (by omega)).trans y4
      go_simp
    refine wpAnyS_take (i := 4) (kw := 4) (v := .int .i64 x) rfl rfl (by kernel_rfl) (by kernel_rfl) (by kernel_rfl) (by kernel_rfl) (fun _ _ _ h => h) HC3 hS0 ⟨Or.inl ⟨by rfl, fun W' hs => ?_⟩, fun _ => rfl⟩ (fun HC4 => ?_)
    · have c := ((bcell hs).1 (w0.heap.size + 1) 0 (by omega)).trans cx
      go_simp
    refine wpAnyS_one HC4 (i := 3) (by kernel_rfl) rfl hS0 (fun K hK => ?_)
    go_simp
    gi_wp2_with (refine ⟨trivial, ?_⟩; gi_at_call 146; refine (callsIn_wide.2 (KV.out _ hS0)).mono ?_; rintro e w6 ⟨rfl, hb6⟩)
    intro HC6
    have hS6 : Below W.heap.size W w6 := hS0.trans (hb6.mono hS0.size)
    refine wpAnyS_last (by kernel_rfl) (by kernel_rfl) rfl hS6 (fun K hK => ?_)
    go_simp
    refine hK _ _ ?_
    clear hK K
    gi_wp2
    exact ⟨⟨R1.out.below hS6, R2.out.below hS6, R3.out.below hS6, ⟨[x0, x1, x2, x3, x4], rfl, R4.out.below hS6, fun e => by omega⟩, bl_trans R6.out hS6⟩, con_below hS6⟩
  case last =>
    rintro lr ar W0 Wa W hRA hI ⟨rfl, hl5⟩ hgl hrl hW0 hca hsz
    obtain ⟨i, ei⟩ : ∃ i, i = M := ⟨_, rfl⟩
    rw [← ei] at hRA hl5 hI
    have hi1 : i < (hRows hs bs l (m + 1 - l)).length := by rw [ei]; exact hM
    have EI := Lib.hid ei
    obtain ⟨hcb, hc5⟩ := HC.out i hi1
    obtain ⟨h1, h2, h3, ⟨ys, hy5, h4, hyl⟩, hbl⟩ := hI
    have KV := Lib.hid (fun (W' : World) (hb' : Below W.heap.size W W') => aceValue_any ((hRows hs bs l (m + 1 - l)).getD i []) W' hcb hc5)
    obtain ⟨v, ev⟩ : ∃ v, v = aceS ((hRows hs bs l (m + 1 - l)).getD i []) := ⟨_, rfl⟩
    rw [← ev] at KV
    have hvx : x = v := by rw [ev, ei]; exact hx.symm
    subst hvx
    clear ev
    obtain ⟨x0, x1, x2, x3, x4, ex⟩ := list_five _ hl5
    rw [ex] at hRA KV
    unfold aggI at KV
    have hbx : Blk W (w0.heap.size + 1 + 1 + 1) 58 (ints [x0, x1, x2, x3, x4]) := hca _ _ _ _ hRA.1
    have y0 := (hbx.cell 0 _ rfl).1
    have y1 := (hbx.cell 1 _ rfl).1
    have y2 := (hbx.cell 2 _ rfl).1
    have y3 := (hbx.cell 3 _ rfl).1
    have y4 := (hbx.cell 4 _ rfl).1
    have s0 := (h1.cell 0 _ rfl).1
    have cx := (h2.cell 0 _ rfl).1
    have gbx := hbx.lt
    have g1 := h1.lt
    have g2 := h2.lt
    have EX := Lib.hid ex
    have R1 := Lib.hid h1
    have R2 := Lib.hid h2
    have R3 := Lib.hid h3
    have R4 := Lib.hid hbx
    have R6 := Lib.hid hbl
    have hmx : Tryz.prog.follows .mixedOrders = true := by kernel_rfl
    clear h1 h2 h3 h4 hyl hbl hca hsz hrl hl5 ex I0 KIT hbx hcb hc5 hRA hy5
    simp only [Array.getD_eq_getD_getElem?]
    gi_wp2
    change Code.wpIn (Fence.wide.inRound lr) _ _ _ _ _ _
    refine wpIn_region_anyR lr rfl hmx (noDefer_spec (by kernel_rfl)) ?_
    refine wpAnyIn_S (S := fun W' => Below W.heap.size W W') (last := 5) (m := 0) (k := 5) rfl (fun HC0 => ?_)
    have hS0 : Below W.heap.size W { W with drawn := W.drawn + 1 } := bl_drew (bl_refl W)
    obtain ⟨W1', eW1⟩ : ∃ W1' : World, W1' = { W with drawn := W.drawn + 1 } := ⟨_, rfl⟩
    have hz1 : W1'.heap.size = W.heap.size := by rw [eW1]
    rw [← eW1] at hS0 ⊢
    clear eW1
    refine wpAnyS_take (i := 0) (kw := 4) (v := .pointer (some ⟨w0.heap.size, 0, none⟩)) rfl rfl (by kernel_rfl) (by kernel_rfl) (by kernel_rfl) (by kernel_rfl) (fun _ _ _ h => h) HC0 hS0 ⟨Or.inl ⟨by rfl, fun W' hs => ?_⟩, fun _ => rfl⟩ (fun HC1 => ?_)
    · go_simp
    refine wpAnyS_take (i := 1) (kw := 4) (v := .func (.method "loop.example/g00910/impl.lowValue") #[.iface 71 (.agg #[])] #[]) rfl rfl (by kernel_rfl) (by kernel_rfl) (by kernel_rfl) (by kernel_rfl) (fun _ _ _ h => h) HC1 hS0 ⟨Or.inl ⟨by rfl, fun W' hs => ?_⟩, fun _ => rfl⟩ (fun HC2 => ?_)
    · have c := ((bcell hs).1 w0.heap.size 0 (by omega)).trans s0
      go_simp
    refine wpAnyS_take (i := 2) (kw := 4) (v := .agg #[.int .i64 x0, .int .i64 x1, .int .i64 x2, .int .i64 x3, .int .i64 x4]) rfl rfl (by kernel_rfl) (by kernel_rfl) (by kernel_rfl) (by kernel_rfl) (fun _ _ _ h => h) HC2 hS0 ⟨Or.inl ⟨by rfl, fun W' hs => ?_⟩, fun _ => rfl⟩ (fun HC3 => ?_)
    · have c0 := ((bcell hs).1 (w0.heap.size + 1 + 1 + 1) 0 (by omega)).trans y0
      have c1 := ((bcell hs).1 (w0.heap.size + 1 + 1 + 1) 1 (by omega)).trans y1
      have c2 := ((bcell hs).1 (w0.heap.size + 1 + 1 + 1) 2 (by omega)).trans y2
      have c3 := ((bcell hs).1 (w0.heap.size + 1 + 1 + 1) 3 (by omega)).trans y3
      have c4 := ((bcell hs).1 (w0.heap.size + 1 + 1 + 1) 4 (by omega)).trans y4
      go_simp
    refine wpAnyS_take (i := 4) (kw := 4) (v := .int .i64 x) rfl rfl (by kernel_rfl) (by kernel_rfl) (by kernel_rfl) (by kernel_rfl) (fun _ _ _ h => h) HC3 hS0 ⟨Or.inl ⟨by rfl, fun W' hs => ?_⟩, fun _ => rfl⟩ (fun HC4 => ?_)
    · have c := ((bcell hs).1 (w0.heap.size + 1) 0 (by omega)).trans cx
      go_simp
    refine wpAnyS_one HC4 (i := 3) (by kernel_rfl) rfl hS0 (fun K hK => ?_)
    go_simp
    gi_wp2_with (refine ⟨trivial, ?_⟩; gi_at_call 146; refine (callsIn_wide.2 (KV.out _ hS0)).mono ?_; rintro e w6 ⟨rfl, hb6⟩)
    intro HC6
    have hS6 : Below W.heap.size W w6 := hS0.trans (hb6.mono hS0.size)
    refine wpAnyS_last (by kernel_rfl) (by kernel_rfl) rfl hS6 (fun K hK => ?_)
    go_simp
    refine hK _ _ ?_
    clear hK K
    gi_wp2
    exact ⟨rfl, ⟨R1.out.below hS6, R2.out.below hS6, R3.out.below hS6, ⟨[x0, x1, x2, x3, x4], rfl, R4.out.below hS6, fun _ => by rw [← EX.out, EI.out]⟩, bl_trans R6.out hS6⟩, (con_below hS6).x _⟩
  case done =>
    rintro D W hD ⟨h1, h2, h3, ⟨ys, hy5, h4, hyl⟩, hbl⟩ hK
    obtain ⟨x0, x1, x2, x3, x4, ex⟩ := list_five _ hy5
    have EE := Lib.hid ((hyl rfl).symm.trans ex)
    rw [ex] at h4
    have H3 := Lib.hid h3
    have H4 := Lib.hid h4
    have R6 := Lib.hid hbl
    have HKD := Lib.hid hK
    clear h1 h2 h3 h4 hyl hbl hK I0 KIT hy5 ex
    obtain ⟨y0, _⟩ := H4.out.cell 0 _ rfl
    obtain ⟨y1, _⟩ := H4.out.cell 1 _ rfl
    obtain ⟨y2, _⟩ := H4.out.cell 2 _ rfl
    obtain ⟨y3, _⟩ := H4.out.cell 3 _ rfl
    obtain ⟨y4, _⟩ := H4.out.cell 4 _ rfl
    gi_wp2_with (refine wpListIn_store_blk 58 5 rfl (.tmp 6) (.tmp 16) rfl i51 (w0.heap.size + 1 + 1) rfl (ints [x0, x1, x2, x3, x4]) rfl rfl (ints_one _) _ H3.out rfl ?_)
    intro w5 hb5 hg5
    obtain ⟨g0, _⟩ := hb5.cell 0 _ rfl
    obtain ⟨g1, _⟩ := hb5.cell 1 _ rfl
    obtain ⟨g2, _⟩ := hb5.cell 2 _ rfl
    obtain ⟨g3, _⟩ := hb5.cell 3 _ rfl
    obtain ⟨g4, _⟩ := hb5.cell 4 _ rfl
    have hk5 : w5.heap[D]? = some (Obj.deferred (some [])) := (hg5.block D (Array.getElem?_eq_some_iff.1 HKD.out).1 (fun e => by have e' := Option.some.inj e; omega)).trans HKD.out
    gi_wp2
    refine ⟨by simp, .inl ⟨_, _, rfl, run_takeDeferred hk5, ?_⟩⟩
    have hput : ∀ k, (w5.putObj D (.deferred none)).cell? ⟨w0.heap.size + 1 + 1, k, none⟩ = w5.cell? ⟨w0.heap.size + 1 + 1, k, none⟩ := fun k => by
      unfold World.cell?
      rw [World.putObj_heap_other (show w0.heap.size + 1 + 1 ≠ D by omega)]
    exact ⟨aggI ((hRows hs bs l (m + 1 - l)).getD M []), by rw [EE.out]; simp [aggI, ints, results, Tryz.f29, go_sem, hput, g0, g1, g2, g3, g4], rfl, (bl_blk R6.out hg5 (by omega)).trans (putObj_below _ _ _ (by omega) (Array.getElem?_eq_some_iff.1 hk5).1)⟩
set_option maxRecDepth 100000 in
set_option maxHeartbeats 4000000 in
theorem firstDeu_any (A : Option Addr) (c : Nat) (hs : List Int) (A2 : Option Addr) (c2 : Nat) (bs : List Int) (l m b1 b2 b3 : Nat) (hi : Bool) (lo : Int) (B : Nat) (wt w : World) (ht : Hid (Low B wt)) (hB : Hid (Below B wt w)) (hBw : Hid (B ≤ w.heap.size))
    (h1 : Blk w b1 25 [.int .i64 (hs.length : Int), .int .i64 (l : Int), .int .i64 (m : Int), .int .i64 (bs.length : Int), .bool hi, .int .i64 lo]) (h2 : Blk w b2 26 [.slice A hs.length c]) (h3 : Blk w b3 26 [.slice A2 bs.length c2])
    (hr : Rd w A hs) (hr2 : Rd w A2 bs) (hh : hs.length ≤ 7) (hb7 : bs.length ≤ 7) (hlm : l ≤ m) (hm5 : m ≤ 5) (hc : cardsB (hs ++ bs) = true)
    (M : Nat) (hM : M < (hRows hs bs l (m + 1 - l)).length) (x : Int) (hx : duS ((hRows hs bs l (m + 1 - l)).getD M []) = x) (hne : ∀ k, k < M → duS ((hRows hs bs l (m + 1 - l)).getD k []) ≠ x) :
    Calls Tryz.prog 29 #[deuV, .int .i64 x, .func (.func 50) #[] #[.pointer (some ⟨b1, 0, none⟩), .pointer (some ⟨b2, 0, none⟩), .pointer (some ⟨b3, 0, none⟩)]] w (Fresh (aggI ((hRows hs bs l (m + 1 - l)).getD M [])) w) := by
  have HC := Lib.hid (hRows_cards_at hs bs l (m + 1 - l) (by omega) hc)
  have RB := Lib.hid (And.intro hr hr2)
  have P1 := Lib.hid h1
  have P2 := Lib.hid h2
  have P3 := Lib.hid h3
  have L1 := h1.lt
  have L2 := h2.lt
  have L3 := h3.lt
  clear hr hr2 h1 h2 h3 hc
  have hm' : ∀ W : World, (method 262 92 (.agg #[]) "loop.example/g00910/impl.lowValue").run Tryz.prog W = .ok (151, .agg #[]) W := fun _ => by kernel_rfl
  have hna : ∀ W : World, (nilAhead 262 92 (.agg #[]) "loop.example/g00910/impl.lowValue").run Tryz.prog W = .ok (some false) W := fun _ => by kernel_rfl
  unfold deuV scV lowF
  refine (callsIn_wide (n := 10)).1 ?_
  refine callsIn_of_wp_marks Tryz.func29 rfl trivial ?_ rfl
  simp only [Tryz.ntmps29, List.size_toArray, List.length_cons, List.length_nil, Nat.reduceAdd, Nat.reduceSub, Array.replicate_succ, Array.replicate_zero, List.push_toArray, List.append_toArray, List.nil_append, List.cons_append]
  obtain ⟨w0, rfl⟩ : ∃ w0 : World, w0 = w := ⟨w, rfl⟩
  gi_wp2
  obtain ⟨W4, eW4⟩ : ∃ W4, W4 = ((((w0.alloc (.cells #[.func (.method "loop.example/g00910/impl.lowValue") #[.iface 92 (.agg #[])] #[], .func (.func 63) #[] #[], .int .i64 9223372036854775807] 50)).alloc (.cells #[.int .i64 x] 2)).alloc (.cells #[.int .i64 0, .int .i64 0, .int .i64 0, .int .i64 0, .int .i64 0] 58)).alloc (.cells #[.int .i64 0, .int .i64 0, .int .i64 0, .int .i64 0, .int .i64 0] 58)) := ⟨_, rfl⟩
  have I0 : Hid (FSt w0 (scL (.method "loop.example/g00910/impl.lowValue") #[.iface 92 (.agg #[])] 63 9223372036854775807) x (hRows hs bs l (m + 1 - l)) M 0 W4) := Lib.hid (by rw [eW4]; exact FSt.start w0 (scL (.method "loop.example/g00910/impl.lowValue") #[.iface 92 (.agg #[])] 63 9223372036854775807) x (hRows hs bs l (m + 1 - l)) M)
  have hz4 : W4.heap.size = w0.heap.size + 1 + 1 + 1 + 1 := by rw [eW4]; simp
  rw [← eW4]
  clear eW4
  have KIT := handsX_any 9 A c hs A2 c2 bs l m b1 b2 b3 hh hb7 hlm hm5 M hM (FSt w0 (scL (.method "loop.example/g00910/impl.lowValue") #[.iface 92 (.agg #[])] 63 9223372036854775807) x (hRows hs bs l (m + 1 - l)) M) W4 (by omega)
    (fun i W h => by
      have hb := h.2.2.2.2
      exact ⟨((P1.out.below hb).cell 1 _ rfl).1, ((P1.out.below hb).cell 2 _ rfl).1, ((P2.out.below hb).cell 0 _ rfl).1, ((P3.out.below hb).cell 0 _ rfl).1, RB.out.1.below hb, RB.out.2.below hb⟩)
  refine wpIn_rangeX (e0 := .exit 0) (j := .exit 0) rfl (by omega) (gf := 50) (lb := #[.pointer (some ⟨b1, 0, none⟩), .pointer (some ⟨b2, 0, none⟩), .pointer (some ⟨b3, 0, none⟩)]) rfl trivial (enters_of Tryz.func50 (by kernel_rfl) rfl)
    (.inr ⟨_, rfl, rfl⟩) KIT (fun i W' ar h => by obtain ⟨rfl, _⟩ := h; rfl) (fun i A' B' ar h _ => h)
    (fun i A' B' h hb' => h.itw (by omega) hb') I0.out
    (fun ar W' => { tmps := #[.agg #[.func (.method "loop.example/g00910/impl.lowValue") #[.iface 92 (.agg #[])] #[], .func (.func 63) #[] #[], .int .i64 9223372036854775807], .int .i64 x, .func (.func 50) #[] #[.pointer (some ⟨b1, 0, none⟩), .pointer (some ⟨b2, 0, none⟩), .pointer (some ⟨b3, 0, none⟩)], .pointer (some ⟨w0.heap.size, 0, none⟩), .pointer (some ⟨w0.heap.size + 1, 0, none⟩), undef, .pointer (some ⟨w0.heap.size + 1 + 1, 0, none⟩), .pointer (some ⟨w0.heap.size + 1 + 1 + 1, 0, none⟩), .func (.func 50) #[] #[.pointer (some ⟨b1, 0, none⟩), .pointer (some ⟨b2, 0, none⟩), .pointer (some ⟨b3, 0, none⟩)], ar.getD 0 undef, undef, undef, undef, undef, undef, undef, undef], defers := [] })
    (fun ar W' W'' => Blk W'' (w0.heap.size + 1 + 1 + 1) 58 (cellsV6 (ar.getD 0 undef)).toList ∧ W'.grownBy W'' (some (w0.heap.size + 1 + 1 + 1)))
    (fun i ar W' W'' hi1 hw hI hY hRA => by
      obtain ⟨rfl, hl5⟩ := hY
      obtain ⟨hc1, hf1⟩ := hI.put hi1 _ hl5 hRA.1 hRA.2
      exact ⟨hc1, hf1, rfl, hl5⟩) ?assign ?body ?last ?done
  case assign =>
    rintro lr i ar W' Kc hw ⟨h1, h2, h3, ⟨ys, hy5, h4, hyl⟩, hbl⟩ ⟨rfl, h5⟩ hKc
    have HK := Lib.hid hKc
    have H4 := Lib.hid h4
    clear hKc h1 h2 h3 h4 hyl hbl I0 KIT
    obtain ⟨x0, x1, x2, x3, x4, ex⟩ := list_five _ h5
    obtain ⟨z0, z1, z2, z3, z4, ez⟩ := list_five _ hy5
    rw [ez] at H4
    rw [ex] at HK ⊢
    clear ex h5 ez hy5
    simp only [aggI, ints, List.map_cons, List.map_nil] at HK ⊢
    gi_wp2_with (refine wpListIn_store_blk 58 5 rfl (.tmp 7) (.tmp 9) rfl i51 (w0.heap.size + 1 + 1 + 1) (by simp [Act.eval]) (ints [x0, x1, x2, x3, x4]) (by simp [Act.eval, ints]) rfl (ints_one _) _ H4.out rfl ?_)
    intro w5 hb5 hg5
    gi_wp2
    exact HK.out _ ⟨hb5, hg5⟩
  case body =>
    rintro lr i ar W0 Wa W hRA hi0 hI ⟨rfl, hl5⟩ hgl hrl hW0 hca hsz
    have hi1 : i < (hRows hs bs l (m + 1 - l)).length := Nat.lt_trans hi0 hM
    obtain ⟨hcb, hc5⟩ := HC.out i hi1
    obtain ⟨h1, h2, h3, ⟨ys, hy5, h4, hyl⟩, hbl⟩ := hI
    have KV := Lib.hid (fun (W' : World) (hb' : Below W.heap.size W W') => deuceValue_any ((hRows hs bs l (m + 1 - l)).getD i []) hcb hc5 B wt W' ht (Lib.hid (hB.out.trans ((hbl.trans (hb'.mono hbl.size)).mono hBw.out))) (Lib.hid (Nat.le_trans hBw.out (Nat.le_trans hbl.size hb'.size))))
    obtain ⟨v, ev⟩ : ∃ v, v = duS ((hRows hs bs l (m + 1 - l)).getD i []) := ⟨_, rfl⟩
    rw [← ev] at KV
    have hvx : (v == x) = false := by rw [ev]; simpa using hne i hi0
    clear ev
    obtain ⟨x0, x1, x2, x3, x4, ex⟩ := list_five _ hl5
    rw [ex] at hRA KV
    unfold aggI at KV
    have hbx : Blk W (w0.heap.size + 1 + 1 + 1) 58 (ints [x0, x1, x2, x3, x4]) := hca _ _ _ _ hRA.1
    have y0 := (hbx.cell 0 _ rfl).1
    have y1 := (hbx.cell 1 _ rfl).1
    have y2 := (hbx.cell 2 _ rfl).1
    have y3 := (hbx.cell 3 _ rfl).1
    have y4 := (hbx.cell 4 _ rfl).1
    have s0 := (h1.cell 0 _ rfl).1
    have cx := (h2.cell 0 _ rfl).1
    have gbx := hbx.lt
    have g1 := h1.lt
    have g2 := h2.lt
    have EX := Lib.hid ex
    have R1 := Lib.hid h1
    have R2 := Lib.hid h2
    have R3 := Lib.hid h3
    have R4 := Lib.hid hbx
    have R6 := Lib.hid hbl
    have hmx : Tryz.prog.follows .mixedOrders = true := by kernel_rfl
    clear h1 h2 h3 h4 hyl hbl hca hsz hrl hl5 ex I0 KIT hbx hcb hc5 hRA hy5
    simp only [Array.getD_eq_getD_getElem?]
    gi_wp2
    change Code.wpIn (Fence.wide.inRound lr) _ _ _ _ _ _
    refine wpIn_region_anyR lr rfl hmx (noDefer_spec (by kernel_rfl)) ?_
    refine wpAnyIn_S (S := fun W' => Below W.heap.size W W') (last := 5) (m := 0) (k := 5) rfl (fun HC0 => ?_)
    have hS0 : Below W.heap.size W { W with drawn := W.drawn + 1 } := bl_drew (bl_refl W)
    obtain ⟨W1', eW1⟩ : ∃ W1' : World, W1' = { W with drawn := W.drawn + 1 } := ⟨_, rfl⟩
    have hz1 : W1'.heap.size = W.heap.size := by rw [eW1]
    rw [← eW1] at hS0 ⊢
    clear eW1
    refine wpAnyS_take (i := 0) (kw := 4) (v := .pointer (some ⟨w0.heap.size, 0, none⟩)) rfl rfl (by kernel_rfl) (by kernel_rfl) (by kernel_rfl) (by kernel_rfl) (fun _ _ _ h => h) HC0 hS0 ⟨Or.inl ⟨by rfl, fun W' hs => ?_⟩, fun _ => rfl⟩ (fun HC1 => ?_)
    · go_simp
    refine wpAnyS_take (i := 1) (kw := 4) (v := .func (.method "loop.example/g00910/impl.lowValue") #[.iface 92 (.agg #[])] #[]) rfl rfl (by kernel_rfl) (by kernel_rfl) (by kernel_rfl) (by kernel_rfl) (fun _ _ _ h => h) HC1 hS0 ⟨Or.inl ⟨by rfl, fun W' hs => ?_⟩, fun _ => rfl⟩ (fun HC2 => ?_)
    · have c := ((bcell hs).1 w0.heap.size 0 (by omega)).trans s0
      go_simp
    refine wpAnyS_take (i := 2) (kw := 4) (v := .agg #[.int .i64 x0, .int .i64 x1, .int .i64 x2, .int .i64 x3, .int .i64 x4]) rfl rfl (by kernel_rfl) (by kernel_rfl) (by kernel_rfl) (by kernel_rfl) (fun _ _ _ h => h) HC2 hS0 ⟨Or.inl ⟨by rfl, fun W' hs => ?_⟩, fun _ => rfl⟩ (fun HC3 => ?_)
    · have c0 := ((bcell hs).1 (w0.heap.size + 1 + 1 + 1) 0 (by omega)).trans y0
      have c1 := ((bcell hs).1 (w0.heap.size + 1 + 1 + 1) 1 (by omega)).trans y1
      have c2 := ((bcell hs).1 (w0.heap.size + 1 + 1 + 1) 2 (by omega)).trans y2
      have c3 := ((bcell hs).1 (w0.heap.size + 1 + 1 + 1) 3 (by omega)).trans y3
      have c4 := ((bcell hs).1 (w0.heap.size + 1 + 1 + 1) 4 (by omega)).trans y4
      go_simp
    refine wpAnyS_take (i := 4) (kw := 4) (v := .int .i64 x) rfl rfl (by kernel_rfl) (by kernel_rfl) (by kernel_rfl) (by kernel_rfl) (fun _ _ _ h => h) HC3 hS0 ⟨Or.inl ⟨by rfl, fun W' hs => ?_⟩, fun _ => rfl⟩ (fun HC4 => ?_)
    · have c := ((bcell hs).1 (w0.heap.size + 1) 0 (by omega)).trans cx
      go_simp
    refine wpAnyS_one HC4 (i := 3) (by kernel_rfl) rfl hS0 (fun K hK => ?_)
    go_simp
    gi_wp2_with (refine ⟨trivial, ?_⟩; gi_at_call 151; refine (callsIn_wide.2 (KV.out _ hS0)).mono ?_; rintro e w6 ⟨rfl, hb6⟩)
    intro HC6
    have hS6 : Below W.heap.size W w6 := hS0.trans (hb6.mono hS0.size)
    refine wpAnyS_last (by kernel_rfl) (by kernel_rfl) rfl hS6 (fun K hK => ?_)
    go_simp
    refine hK _ _ ?_
    clear hK K
    gi_wp2
    exact ⟨⟨R1.out.below hS6, R2.out.below hS6, R3.out.below hS6, ⟨[x0, x1, x2, x3, x4], rfl, R4.out.below hS6, fun e => by omega⟩, bl_trans R6.out hS6⟩, con_below hS6⟩
  case last =>
    rintro lr ar W0 Wa W hRA hI ⟨rfl, hl5⟩ hgl hrl hW0 hca hsz
    obtain ⟨i, ei⟩ : ∃ i, i = M := ⟨_, rfl⟩
    rw [← ei] at hRA hl5 hI
    have hi1 : i < (hRows hs bs l (m + 1 - l)).length := by rw [ei]; exact hM
    have EI := Lib.hid ei
    obtain ⟨hcb, hc5⟩ := HC.out i hi1
    obtain ⟨h1, h2, h3, ⟨ys, hy5, h4, hyl⟩, hbl⟩ := hI
    have KV := Lib.hid (fun (W' : World) (hb' : Below W.heap.size W W') => deuceValue_any ((hRows hs bs l (m + 1 - l)).getD i []) hcb hc5 B wt W' ht (Lib.hid (hB.out.trans ((hbl.trans (hb'.mono hbl.size)).mono hBw.out))) (Lib.hid (Nat.le_trans hBw.out (Nat.le_trans hbl.size hb'.size))))
    obtain ⟨v, ev⟩ : ∃ v, v = duS ((hRows hs bs l (m + 1 - l)).getD i []) := ⟨_, rfl⟩
    rw [← ev] at KV
    have hvx : x = v := by rw [ev, ei]; exact hx.symm
    subst hvx
    clear ev
    obtain ⟨x0, x1, x2, x3, x4, ex⟩ := list_five _ hl5
    rw [ex] at hRA KV
    unfold aggI at KV
    have hbx : Blk W (w0.heap.size + 1 + 1 + 1) 58 (ints [x0, x1, x2, x3, x4]) := hca _ _ _ _ hRA.1
    have y0 := (hbx.cell 0 _ rfl).1
    have y1 := (hbx.cell 1 _ rfl).1
    have y2 := (hbx.cell 2 _ rfl).1
    have y3 := (hbx.cell 3 _ rfl).1
    have y4 := (hbx.cell 4 _ rfl).1
    have s0 := (h1.cell 0 _ rfl).1
    have cx := (h2.cell 0 _ rfl).1
    have gbx := hbx.lt
    have g1 := h1.lt
    have g2 := h2.lt
    have EX := Lib.hid ex
    have R1 := Lib.hid h1
    have R2 := Lib.hid h2
    have R3 := Lib.hid h3
    have R4 := Lib.hid hbx
    have R6 := Lib.hid hbl
    have hmx : Tryz.prog.follows .mixedOrders = true := by kernel_rfl
    clear h1 h2 h3 h4 hyl hbl hca hsz hrl hl5 ex I0 KIT hbx hcb hc5 hRA hy5
    simp only [Array.getD_eq_getD_getElem?]
    gi_wp2
    change Code.wpIn (Fence.wide.inRound lr) _ _ _ _ _ _
    refine wpIn_region_anyR lr rfl hmx (noDefer_spec (by kernel_rfl)) ?_
    refine wpAnyIn_S (S := fun W' => Below W.heap.size W W') (last := 5) (m := 0) (k := 5) rfl (fun HC0 => ?_)
    have hS0 : Below W.heap.size W { W with drawn := W.drawn + 1 } := bl_drew (bl_refl W)
    obtain ⟨W1', eW1⟩ : ∃ W1' : World, W1' = { W with drawn := W.drawn + 1 } := ⟨_, rfl⟩
    have hz1 : W1'.heap.size = W.heap.size := by rw [eW1]
    rw [← eW1] at hS0 ⊢
    clear eW1
    refine wpAnyS_take (i := 0) (kw := 4) (v := .pointer (some ⟨w0.heap.size, 0, none⟩)) rfl rfl (by kernel_rfl) (by kernel_rfl) (by kernel_rfl) (by kernel_rfl) (fun _ _ _ h => h) HC0 hS0 ⟨Or.inl ⟨by rfl, fun W' hs => ?_⟩, fun _ => rfl⟩ (fun HC1 => ?_)
    · go_simp
    refine wpAnyS_take (i := 1) (kw := 4) (v := .func (.method "loop.example/g00910/impl.lowValue") #[.iface 92 (.agg #[])] #[]) rfl rfl (by kernel_rfl) (by kernel_rfl) (by kernel_rfl) (by kernel_rfl) (fun _ _ _ h => h) HC1 hS0 ⟨Or.inl ⟨by rfl, fun W' hs => ?_⟩, fun _ => rfl⟩ (fun HC2 => ?_)
    · have c := ((bcell hs).1 w0.heap.size 0 (by omega)).trans s0
      go_simp
    refine wpAnyS_take (i := 2) (kw := 4) (v := .agg #[.int .i64 x0, .int .i64 x1, .int .i64 x2, .int .i64 x3, .int .i64 x4]) rfl rfl (by kernel_rfl) (by kernel_rfl) (by kernel_rfl) (by kernel_rfl) (fun _ _ _ h => h) HC2 hS0 ⟨Or.inl ⟨by rfl, fun W' hs => ?_⟩, fun _ => rfl⟩ (fun HC3 => ?_)
    · have c0 := ((bcell hs).1 (w0.heap.size + 1 + 1 + 1) 0 (by omega)).trans y0
      have c1 := ((bcell hs).1 (w0.heap.size + 1 + 1 + 1) 1 (by omega)).trans y1
      have c2 := ((bcell hs).1 (w0.heap.size + 1 + 1 + 1) 2 (by omega)).trans y2
      have c3 := ((bcell hs).1 (w0.heap.size + 1 + 1 + 1) 3 (by omega)).trans y3
      have c4 := ((bcell hs).1 (w0.heap.size + 1 + 1 + 1) 4 (by omega)).trans y4
      go_simp
    refine wpAnyS_take (i := 4) (kw := 4) (v := .int .i64 x) rfl rfl (by kernel_rfl) (by kernel_rfl) (by kernel_rfl) (by kernel_rfl) (fun _ _ _ h => h) HC3 hS0 ⟨Or.inl ⟨by rfl, fun W' hs => ?_⟩, fun _ => rfl⟩ (fun HC4 => ?_)
    · have c := ((bcell hs).1 (w0.heap.size + 1) 0 (by omega)).trans cx
      go_simp
    refine wpAnyS_one HC4 (i := 3) (by kernel_rfl) rfl hS0 (fun K hK => ?_)
    go_simp
    gi_wp2_with (refine ⟨trivial, ?_⟩; gi_at_call 151; refine (callsIn_wide.2 (KV.out _ hS0)).mono ?_; rintro e w6 ⟨rfl, hb6⟩)
    intro HC6
    have hS6 : Below W.heap.size W w6 := hS0.trans (hb6.mono hS0.size)
    refine wpAnyS_last (by kernel_rfl) (by kernel_rfl) rfl hS6 (fun K hK => ?_)
    go_simp
    refine hK _ _ ?_
    clear hK K
    gi_wp2
    exact ⟨rfl, ⟨R1.out.below hS6, R2.out.below hS6, R3.out.below hS6, ⟨[x0, x1, x2, x3, x4], rfl, R4.out.below hS6, fun _ => by rw [← EX.out, EI.out]⟩, bl_trans R6.out hS6⟩, (con_below hS6).x _⟩
  case done =>
    rintro D W hD ⟨h1, h2, h3, ⟨ys, hy5, h4, hyl⟩, hbl⟩ hK
    obtain ⟨x0, x1, x2, x3, x4, ex⟩ := list_five _ hy5
    have EE := Lib.hid ((hyl rfl).symm.trans ex)
    rw [ex] at h4
    have H3 := Lib.hid h3
    have H4 := Lib.hid h4
    have R6 := Lib.hid hbl
    have HKD := Lib.hid hK
    clear h1 h2 h3 h4 hyl hbl hK I0 KIT hy5 ex
    obtain ⟨y0, _⟩ := H4.out.cell 0 _ rfl
    obtain ⟨y1, _⟩ := H4.out.cell 1 _ rfl
    obtain ⟨y2, _⟩ := H4.out.cell 2 _ rfl
    obtain ⟨y3, _⟩ := H4.out.cell 3 _ rfl
    obtain ⟨y4, _⟩ := H4.out.cell 4 _ rfl
    gi_wp2_with (refine wpListIn_store_blk 58 5 rfl (.tmp 6) (.tmp 16) rfl i51 (w0.heap.size + 1 + 1) rfl (ints [x0, x1, x2, x3, x4]) rfl rfl (ints_one _) _ H3.out rfl ?_)
    intro w5 hb5 hg5
    obtain ⟨g0, _⟩ := hb5.cell 0 _ rfl
    obtain ⟨g1, _⟩ := hb5.cell 1 _ rfl
    obtain ⟨g2, _⟩ := hb5.cell 2 _ rfl
    obtain ⟨g3, _⟩ := hb5.cell 3 _ rfl
    obtain ⟨g4, _⟩ := hb5.cell 4 _ rfl
    have hk5 : w5.heap[D]? = some (Obj.deferred (some [])) := (hg5.block D (Array.getElem?_eq_some_iff.1 HKD.out).1 (fun e => by have e' := Option.some.inj e; omega)).trans HKD.out
    gi_wp2
    refine ⟨by simp, .inl ⟨_, _, rfl, run_takeDeferred hk5, ?_⟩⟩
    have hput : ∀ k, (w5.putObj D (.deferred none)).cell? ⟨w0.heap.size + 1 + 1, k, none⟩ = w5.cell? ⟨w0.heap.size + 1 + 1, k, none⟩ := fun k => by
      unfold World.cell?
      rw [World.putObj_heap_other (show w0.heap.size + 1 + 1 ≠ D by omega)]
    exact ⟨aggI ((hRows hs bs l (m + 1 - l)).getD M []), by rw [EE.out]; simp [aggI, ints, results, Tryz.f29, go_sem, hput, g0, g1, g2, g3, g4], rfl, (bl_blk R6.out hg5 (by omega)).trans (putObj_below _ _ _ (by omega) (Array.getElem?_eq_some_iff.1 hk5).1)⟩
end Go.Proofs.YtlpkaflmhdgmmaaGreatDoor

/-! BestHandIn: the plain facts; the program's walk. -/
namespace Go.Proofs.YtlpkaflmhdgmmaaGreatDoor
open Go.RowKit
set_option linter.unusedVariables false
attribute [local go_sem] Oper.semAt_some

/-! Which hand is the first of the best. -/
theorem top_all (V : Nat → Int) : ∀ n, 0 < n → (∀ k, k < n → 0 ≤ V k) → V (topI V n) = topV V n ∧ (∀ k, k < n → V k ≤ topV V n) ∧ ∀ k, k < topI V n → V k < topV V n
  | n + 1, _, h => by
    rcases Nat.eq_zero_or_pos n with e | hn
    · subst e
      have := h 0 (by omega)
      obtain ⟨e1, e2⟩ := top_yes (V := V) (n := 0) (by rw [topV]; omega)
      rw [e1, e2]
      exact ⟨rfl, fun k hk => (by obtain rfl : k = 0 := (by omega); omega), fun k hk => (by omega)⟩
    · obtain ⟨a1, a2, a3⟩ := top_all V n hn (fun k hk => h k (by omega))
      by_cases hx : topV V n < V n
      · obtain ⟨e1, e2⟩ := top_yes hx
        rw [e1, e2]
        refine ⟨rfl, fun k hk => ?_, fun k hk => by have := a2 k hk; omega⟩
        by_cases e : k = n
        · subst e; omega
        · have := a2 k (by omega); omega
      · obtain ⟨e1, e2⟩ := top_no (V := V) (n := n) (by omega)
        rw [e1, e2]
        refine ⟨a1, fun k hk => ?_, a3⟩
        by_cases e : k = n
        · subst e; omega
        · exact a2 k (by omega)
theorem low_all (V : Nat → Int) : ∀ n, 0 < n → (∀ k, k < n → 0 ≤ V k) → lowI V n < n ∧ V (lowI V n) = lowT V n ∧ 0 ≤ lowT V n ∧ (∀ k, k < n → lowT V n ≤ V k) ∧ ∀ k, k < lowI V n → lowT V n < V k
  | n + 1, _, h => by
    rcases Nat.eq_zero_or_pos n with e | hn
    · subst e
      have := h 0 (by omega)
      obtain ⟨e1, e2⟩ := lowT_yes (V := V) (n := 0) (.inl (by rw [lowT]; omega))
      rw [e1, e2]
      exact ⟨by omega, rfl, this, fun k hk => (by obtain rfl : k = 0 := (by omega); omega), fun k hk => (by omega)⟩
    · obtain ⟨a0, a1, a2, a3, a4⟩ := low_all V n hn (fun k hk => h k (by omega))
      by_cases hx : lowT V n < 0 ∨ V n < lowT V n
      · obtain ⟨e1, e2⟩ := lowT_yes hx
        rw [e1, e2]
        refine ⟨by omega, rfl, h n (by omega), fun k hk => ?_, fun k hk => by have := a3 k hk; omega⟩
        by_cases e : k = n
        · subst e; omega
        · have := a3 k (by omega); omega
      · obtain ⟨e1, e2⟩ := lowT_no hx
        rw [e1, e2]
        refine ⟨by omega, a1, a2, fun k hk => ?_, a4⟩
        by_cases e : k = n
        · subst e; omega
        · exact a3 k (by omega)
theorem mn_low (V : Nat → Int) : ∀ n, 0 < n → (∀ k, k < n → 0 ≤ V k ∧ V k ≤ 4000000) → mnV V n = lowT V n
  | n + 1, _, h => by
    rcases Nat.eq_zero_or_pos n with e | hn
    · subst e
      have := h 0 (by omega)
      rw [(lowT_yes (V := V) (n := 0) (.inl (by rw [lowT]; omega))).1, mnV, mnV, minJ, if_pos (by omega)]
    · have ih := mn_low V n hn (fun k hk => h k (by omega))
      have h0 := (low_all V n hn (fun k hk => (h k (by omega)).1)).2.2.1
      rw [mnV, ih, minJ]
      by_cases hx : V n < lowT V n
      · rw [if_pos hx, (lowT_yes (.inr hx)).1]
      · rw [if_neg hx, (lowT_no (fun q => q.elim (by omega) hx)).1]

/-- The low value of a hand. -/
def loS (lo : Int) (xs : List Int) : Int := if lo = 3 then duS xs else aceS xs
theorem loS_bd (lo : Int) (xs : List Int) (hb : cardsB xs = true) (h5 : xs.length = 5) : 0 ≤ loS lo xs ∧ loS lo xs ≤ 4000000 := by
  unfold loS
  split
  · exact duS_bd xs hb h5
  · have := aceS_bd xs hb h5
    omega
/-- The value, the index, the code and the hand of BestHandIn. -/
def beV (hi : Bool) (lo : Int) (L : List (List Int)) : Int := if hi = true then topV (fun k => hv (L.getD k [])) L.length else lowT (fun k => loS lo (L.getD k [])) L.length
def beI (hi : Bool) (lo : Int) (L : List (List Int)) : Nat := if hi = true then topI (fun k => hv (L.getD k [])) L.length else lowI (fun k => loS lo (L.getD k [])) L.length
def beOk (hi : Bool) (lo : Int) (L : List (List Int)) : Bool := hi || countsB lo (beV hi lo L)
def beC (h l m b : Int) (hi : Bool) (lo : Int) (hs bs : List Int) : Int := if codeH h l m b hi lo hs bs = 0 then (if beOk hi lo (handsH l m hs bs) = true then 0 else 4) else codeH h l m b hi lo hs bs
def beR (h l m b : Int) (hi : Bool) (lo : Int) (hs bs : List Int) : List Int := if beC h l m b hi lo hs bs = 0 then (handsH l m hs bs).getD (beI hi lo (handsH l m hs bs)) [] else []

theorem bl_drewR {a b : World} (h : Below a.drew.heap.size a.drew b) : Below a.heap.size a b := (bl_drew (bl_refl a)).trans h
/-- Two operations may come up. -/
theorem wpAnyR_two {P : Program} {ops : Array Oper} {md : Region.Mode} {Q : Exit → Act → World → Prop} {R : World → World → Prop} {I : World → Prop} {last : Nat} {i j : Nat} {o p : Oper} {fuel : Nat} {listed : Array Bool} {a : Act} {w : World} (hcl : closedB md ops listed) (hr : Region.ready md ops listed = [i, j]) (ho : ops[i]? = some o) (hp : ops[j]? = some p)
    (hwi : Region.wanted o (yielded ops a.tmps) = true) (hwj : Region.wanted p (yielded ops a.tmps) = true) (hI : ∀ w', R w w' → I w')
    (h : ∀ w', R w w' → ∀ K' : Act → World → Prop, (∀ a w, (closedB md ops (listed.setIfInBounds i true) → wpAnyR P md ops R I last Q fuel (listed.setIfInBounds i true) a w) → K' a w) → Oper.wp P o a w' K' Q)
    (h2 : ∀ w', R w w' → ∀ K' : Act → World → Prop, (∀ a w, (closedB md ops (listed.setIfInBounds j true) → wpAnyR P md ops R I last Q fuel (listed.setIfInBounds j true) a w) → K' a w) → Oper.wp P p a w' K' Q) : wpAnyR P md ops R I last Q (fuel + 1) listed a w := by
  have hci : closedB md ops (listed.setIfInBounds i true) := closed_set hcl (by rw [hr]; exact List.mem_cons_self ..)
  have hcj : closedB md ops (listed.setIfInBounds j true) := closed_set hcl (by rw [hr]; exact List.mem_cons_of_mem _ (List.mem_singleton.2 rfl))
  intro w' hw
  refine ⟨hI w' hw, by rw [hr]; simp, fun k hk => ?_⟩
  rw [hr] at hk
  rcases List.mem_cons.1 hk with rfl | hk
  · unfold wpOp
    simp only [ho, hwi, if_true]
    exact .inl (h w' hw _ (fun a w q => q hci))
  · obtain rfl := List.mem_singleton.1 hk
    unfold wpOp
    simp only [hp, hwj, if_true]
    exact .inl (h2 w' hw _ (fun a w q => q hcj))
/-- A whole variable is stored, by itself. -/
theorem opwp_store_blk {o : Oper} {a : Act} {w : World} {K : Act → World → Prop} {Q : Exit → Act → World → Prop} (t : TypeId) (n : Nat) (x y : Operand) (ho : o.op = .store t x y)
    (hi : (Tryz.prog.info? t).map (·.size) = some n)
    (g : Nat) (hx : a.eval x = .pointer (some ⟨g, 0, none⟩)) (vs : List Value) (hy : a.eval y = .agg vs.toArray) (hl : vs.length = n) (h1 : ∀ v ∈ vs, v.oneCell' = true) (old : Array Value) (hg : w.heap[g]? = some (.cells old t (0, 0))) (hs : old.size = n)
    (h : ∀ w', Blk w' g t vs → w.grownBy w' (some g) → K (a.put o.dst undef) w') : o.wp Tryz.prog a w K Q := by
  have hr := run_storeVar_row (P := Tryz.prog) w g t t old vs.toArray hg (by rw [List.size_toArray, hl]; exact hi) (by simp [hl, hs]) (all_oneCell_toArray h1)
  unfold Oper.wp execOp
  simp only [ho, hx, hy, Instr.storeAt, Instr.sureAddr, Sem.run_bind, Sem.run_pure, Result.andThen_ok, hr]
  exact h _ (setRow_heap w g old _ _ _ hg) ⟨rfl, rfl, rfl, by simp, fun k hk hne => setRow_other w g k _ (fun e => hne (by rw [e]))⟩

set_option maxRecDepth 100000 in
set_option maxHeartbeats 8000000 in
/-- The walk, whatever the scale. -/
theorem implBest_walk (hn ln mn bn : Int) (hi : Bool) (lo : Int) (A : Option Addr) (c n : Nat) (A2 : Option Addr) (c2 n2 : Nat) (f0 : Fn) (rb : Array Value) (f1 : Nat) (z x y0 y1 y2 y3 y4 : Int) (ok : Bool) (ys : List Int) (code : Int) (hok : (hi || countsB lo x) = ok) (HY : Hid (ok = true → ys = [y0, y1, y2, y3, y4] ∧ code = 0)) (HZ : Hid (ok = false → ys = [] ∧ code = 4)) (w : World)
    (KC : Hid (∀ W, Below w.heap.size w W → Calls Tryz.prog 24 #[vV hn ln mn bn hi lo, .slice A n c, .slice A2 n2 c2] W (Fresh (.int .i64 0) W)))
    (KS : Hid (∀ W, Calls Tryz.prog 25 #[vV hn ln mn bn hi lo] W (Fresh (scV f0 rb f1 z) W)))
    (KB : Hid (∀ (b1 b2 b3 : Nat) (W : World), Below w.heap.size w W → Blk W b1 25 [.int .i64 hn, .int .i64 ln, .int .i64 mn, .int .i64 bn, .bool hi, .int .i64 lo] → Blk W b2 26 [.slice A n c] → Blk W b3 26 [.slice A2 n2 c2] →
      Calls Tryz.prog 27 #[scV f0 rb f1 z, .func (.func 50) #[] #[.pointer (some ⟨b1, 0, none⟩), .pointer (some ⟨b2, 0, none⟩), .pointer (some ⟨b3, 0, none⟩)]] W (Fresh (.int .i64 x) W)))
    (KF : Hid (∀ (b1 b2 b3 : Nat) (W : World), Below w.heap.size w W → Blk W b1 25 [.int .i64 hn, .int .i64 ln, .int .i64 mn, .int .i64 bn, .bool hi, .int .i64 lo] → Blk W b2 26 [.slice A n c] → Blk W b3 26 [.slice A2 n2 c2] →
      Calls Tryz.prog 29 #[scV f0 rb f1 z, .int .i64 x, .func (.func 50) #[] #[.pointer (some ⟨b1, 0, none⟩), .pointer (some ⟨b2, 0, none⟩), .pointer (some ⟨b3, 0, none⟩)]] W (Fresh (.agg #[.int .i64 y0, .int .i64 y1, .int .i64 y2, .int .i64 y3, .int .i64 y4]) W))) :
    Calls Tryz.prog 7 #[vV hn ln mn bn hi lo, .slice A n c, .slice A2 n2 c2] w (NewRC ys code w) := by
  have KO := Lib.hid (fun (W : World) => handsOf_any hn ln mn bn hi lo A c n A2 c2 n2 W)
  have KQ := Lib.hid (fun (W : World) => countsAsLow_any hn ln mn bn hi lo x W)
  have N0 := Lib.hid (blk_new w 25 [.int .i64 hn, .int .i64 ln, .int .i64 mn, .int .i64 bn, .bool hi, .int .i64 lo])
  have B0 := Lib.hid (bl_alloc (bl_refl w) (.cells ([.int .i64 hn, .int .i64 ln, .int .i64 mn, .int .i64 bn, .bool hi, .int .i64 lo] : List Value).toArray 25))
  have hmx : Tryz.prog.follows .mixedOrders = true := by kernel_rfl
  unfold vV scV at *
  go_enter Tryz.func7, Tryz.ntmps7
  go_wp2_with (go_at_call 24; refine (KC.out _ B0.out).mono ?_; rintro e w1 ⟨rfl, hb1⟩; have HN1 := Lib.hid (N0.out.below hb1); have B1 := Lib.hid (bl_trans B0.out hb1); clear hb1)
  go_cut [9, 10] from 19 to 24 (fun s9 s10 W => ∃ g b1 b2 b3, s9 = .pointer (some ⟨g, 0, none⟩) ∧ s10 = .func (.func 50) #[] #[.pointer (some ⟨b1, 0, none⟩), .pointer (some ⟨b2, 0, none⟩), .pointer (some ⟨b3, 0, none⟩)] ∧ Hid (Blk W g 50 [.func f0 rb #[], .func (.func f1) #[] #[], .int .i64 z] ∧ Blk W b1 25 [.int .i64 hn, .int .i64 ln, .int .i64 mn, .int .i64 bn, .bool hi, .int .i64 lo] ∧ Blk W b2 26 [.slice A n c] ∧ Blk W b3 26 [.slice A2 n2 c2] ∧ Below w.heap.size w W ∧ Blk W w.heap.size 25 [.int .i64 hn, .int .i64 ln, .int .i64 mn, .int .i64 bn, .bool hi, .int .i64 lo]))
  case first =>
    refine wp_region_R (R := fun a b => Below a.heap.size a b) (I := fun W' => Below w1.heap.size w1 W') (last := 8) (k := 8) (fun _ => bl_refl _) hmx rfl (fun HC0 => ?_)
    refine wpAnyR_take (i := 0) (kw := 8) (v := .agg #[.int .i64 hn, .int .i64 ln, .int .i64 mn, .int .i64 bn, .bool hi, .int .i64 lo]) (fun _ => bl_refl _) (fun p q => bl_trans p q) rfl (by kernel_rfl) (by kernel_rfl) (by kernel_rfl) (by kernel_rfl) (fun _ _ _ h => h) HC0 (Or.inl ⟨by rfl, fun W' hI => ?_⟩) (fun HC1 => ?_)
    · have hv : Blk W' w.heap.size 25 [.int .i64 hn, .int .i64 ln, .int .i64 mn, .int .i64 bn, .bool hi, .int .i64 lo] := HN1.out.below hI
      obtain ⟨q0, _⟩ := hv.cell 0 _ rfl; obtain ⟨q1, _⟩ := hv.cell 1 _ rfl; obtain ⟨q2, _⟩ := hv.cell 2 _ rfl; obtain ⟨q3, _⟩ := hv.cell 3 _ rfl; obtain ⟨q4, _⟩ := hv.cell 4 _ rfl; obtain ⟨q5, _⟩ := hv.cell 5 _ rfl
      exact .inl (by go_simp)
    refine wpAnyR_take (i := 1) (kw := 8) (v := .agg #[.func f0 rb #[], .func (.func f1) #[] #[], .int .i64 z]) (fun _ => bl_refl _) (fun p q => bl_trans p q) rfl (by kernel_rfl) (by kernel_rfl) (by kernel_rfl) (by kernel_rfl) (fun _ _ _ h => h) HC1 (Or.inl ⟨by rfl, fun W' hI => ?_⟩) (fun HC2 => ?_)
    · exact .inr ⟨25, #[.agg #[.int .i64 hn, .int .i64 ln, .int .i64 mn, .int .i64 bn, .bool hi, .int .i64 lo]], by go_simp, (KS.out W').mono fun e w' h => h⟩
    refine wpAnyR_take (i := 2) (kw := 8) (v := .agg #[.int .i64 hn, .int .i64 ln, .int .i64 mn, .int .i64 bn, .bool hi, .int .i64 lo]) (fun _ => bl_refl _) (fun p q => bl_trans p q) rfl (by kernel_rfl) (by kernel_rfl) (by kernel_rfl) (by kernel_rfl) (fun _ _ _ h => h) HC2 (Or.inl ⟨by rfl, fun W' hI => ?_⟩) (fun HC3 => ?_)
    · have hv : Blk W' w.heap.size 25 [.int .i64 hn, .int .i64 ln, .int .i64 mn, .int .i64 bn, .bool hi, .int .i64 lo] := HN1.out.below hI
      obtain ⟨q0, _⟩ := hv.cell 0 _ rfl; obtain ⟨q1, _⟩ := hv.cell 1 _ rfl; obtain ⟨q2, _⟩ := hv.cell 2 _ rfl; obtain ⟨q3, _⟩ := hv.cell 3 _ rfl; obtain ⟨q4, _⟩ := hv.cell 4 _ rfl; obtain ⟨q5, _⟩ := hv.cell 5 _ rfl
      exact .inl (by go_simp)
    refine wpAnyR_take (i := 3) (kw := 8) (v := .slice A n c) (fun _ => bl_refl _) (fun p q => bl_trans p q) rfl (by kernel_rfl) (by kernel_rfl) (by kernel_rfl) (by kernel_rfl) (fun _ _ _ h => h) HC3 (Or.inl ⟨by rfl, fun W' hI => ?_⟩) (fun HC4 => ?_)
    · exact .inl (by go_simp)
    refine wpAnyR_take (i := 4) (kw := 8) (v := .slice A2 n2 c2) (fun _ => bl_refl _) (fun p q => bl_trans p q) rfl (by kernel_rfl) (by kernel_rfl) (by kernel_rfl) (by kernel_rfl) (fun _ _ _ h => h) HC4 (Or.inl ⟨by rfl, fun W' hI => ?_⟩) (fun HC5 => ?_)
    · exact .inl (by go_simp)
    refine wpAnyR_two HC5 (i := 5) (j := 6) (by kernel_rfl) rfl rfl (by rfl) (by rfl) (fun w' hr => bl_drewR hr) (fun w5 hr5 K hK => ?_) (fun w5 hr5 K hK => ?_)
    · have hI5 : Below w1.heap.size w1 w5 := bl_drewR hr5
      go_simp
      go_wp2_with (go_at_call 26; refine (KO.out w5).mono ?_; rintro e w6 ⟨rfl, v1, v2, v3, hb6⟩)
      have hI6 : Below w1.heap.size w1 w6 := bl_trans hI5 hb6
      intro HC6
      refine wpAnyR_one HC6 (i := 6) (by kernel_rfl) rfl (by rfl) (fun w7 hr7 => ⟨bl_trans hI6 hr7, fun K hK => ?_⟩)
      go_simp
      refine hK _ _ ?_
      clear hK K
      intro HC7
      have hI7 : Below w1.heap.size w1 w7 := bl_trans hI6 hr7
      have hz7 := hr7.size
      have hA7 : Below w7.heap.size w7 (w7.alloc (.cells #[.nilFunc, .nilFunc, .int .i64 0] 50)) := bl_alloc (bl_refl _) _
      have hI8 : Below w1.heap.size w1 (w7.alloc (.cells #[.nilFunc, .nilFunc, .int .i64 0] 50)) := bl_trans hI7 hA7
      have NZ := blk_new w7 50 [.nilFunc, .nilFunc, .int .i64 0]
      refine wpAnyR_one HC7 (i := 7) (by kernel_rfl) rfl (by rfl) (fun w8 hr8 => ⟨bl_trans hI8 hr8, fun K hK => ?_⟩)
      refine opwp_store_blk 50 3 (.tmp 9) (.tmp 20) rfl i85S w7.heap.size rfl (scL f0 rb f1 z) rfl rfl (scL_one _ _ _ _) _ (NZ.below hr8) rfl ?_
      intro w9 hb9 hg9
      refine hK _ _ ?_
      clear hK K
      intro HC8
      have hI9 : Below w1.heap.size w1 w9 := bl_blk (bl_trans hI8 hr8) hg9 hI7.size
      refine wpAnyR_last (by kernel_rfl) (by kernel_rfl) rfl (by rfl) (fun w10 hr10 => ⟨bl_trans hI9 hr10, fun K hK => ?_⟩)
      go_simp
      refine hK _ _ ?_
      clear hK K
      have up : ∀ {q : Nat} {t : TypeId} {vs : List Value}, Blk w6 q t vs → q ≠ w7.heap.size → Blk w10 q t vs := fun hq hne => ((((hq.below hr7).below hA7).below hr8).grown hg9 (fun e => hne (Option.some.inj e))).below hr10
      have l1 := v1.lt
      have l2 := v2.lt
      have l3 := v3.lt
      go_wp2_with fail
      go_meet
      exact ⟨w7.heap.size, w5.heap.size, w5.heap.size + 1, w5.heap.size + 1 + 1, rfl, rfl, Lib.hid ⟨hb9.below hr10, up v1 (by omega), up v2 (by omega), up v3 (by omega), bl_trans B1.out (bl_trans hI9 hr10), HN1.out.below (bl_trans hI9 hr10)⟩⟩
    · have hI5 : Below w1.heap.size w1 w5 := bl_drewR hr5
      go_simp
      refine hK _ _ ?_
      clear hK K
      intro HC6
      have hA5 : Below w5.heap.size w5 (w5.alloc (.cells #[.nilFunc, .nilFunc, .int .i64 0] 50)) := bl_alloc (bl_refl _) _
      have NZ := blk_new w5 50 [.nilFunc, .nilFunc, .int .i64 0]
      refine wpAnyR_one HC6 (i := 5) (by kernel_rfl) rfl (by rfl) (fun w6 hr6 => ⟨bl_trans (bl_trans hI5 hA5) hr6, fun K hK => ?_⟩)
      have hI6 : Below w1.heap.size w1 w6 := bl_trans (bl_trans hI5 hA5) hr6
      have hz6 : w5.heap.size + 1 ≤ w6.heap.size := by have := hr6.size; rwa [World.size_alloc] at this
      have NZ6 := NZ.below hr6
      clear NZ
      go_simp
      go_wp2_with (go_at_call 26; refine (KO.out w6).mono ?_; rintro e w7 ⟨rfl, v1, v2, v3, hb7⟩)
      intro HC7
      have hI8 : Below w1.heap.size w1 w7 := bl_trans hI6 hb7
      have NZ7 := NZ6.below hb7
      refine wpAnyR_one HC7 (i := 7) (by kernel_rfl) rfl (by rfl) (fun w8 hr8 => ⟨bl_trans hI8 hr8, fun K hK => ?_⟩)
      refine opwp_store_blk 50 3 (.tmp 9) (.tmp 20) rfl i85S w5.heap.size rfl (scL f0 rb f1 z) rfl rfl (scL_one _ _ _ _) _ (NZ7.below hr8) rfl ?_
      intro w9 hb9 hg9
      refine hK _ _ ?_
      clear hK K
      intro HC8
      have hI9 : Below w1.heap.size w1 w9 := bl_blk (bl_trans hI8 hr8) hg9 hI5.size
      refine wpAnyR_last (by kernel_rfl) (by kernel_rfl) rfl (by rfl) (fun w10 hr10 => ⟨bl_trans hI9 hr10, fun K hK => ?_⟩)
      go_simp
      refine hK _ _ ?_
      clear hK K
      have up : ∀ {q : Nat} {t : TypeId} {vs : List Value}, Blk w7 q t vs → q ≠ w5.heap.size → Blk w10 q t vs := fun hq hne => ((hq.below hr8).grown hg9 (fun e => hne (Option.some.inj e))).below hr10
      have l1 := v1.lt
      have l2 := v2.lt
      have l3 := v3.lt
      go_wp2_with fail
      go_meet
      exact ⟨w5.heap.size, w6.heap.size, w6.heap.size + 1, w6.heap.size + 1 + 1, rfl, rfl, Lib.hid ⟨hb9.below hr10, up v1 (by omega), up v2 (by omega), up v3 (by omega), bl_trans B1.out (bl_trans hI9 hr10), HN1.out.below (bl_trans hI9 hr10)⟩⟩
  case rest =>
    obtain ⟨g, b1, b2, b3, rfl, rfl, hs⟩ := hcut
    obtain ⟨g0, _⟩ := hs.out.1.cell 0 _ rfl
    obtain ⟨g1, _⟩ := hs.out.1.cell 1 _ rfl
    obtain ⟨g2, _⟩ := hs.out.1.cell 2 _ rfl
    obtain ⟨q0, _⟩ := hs.out.2.2.2.2.2.cell 0 _ rfl
    obtain ⟨q1, _⟩ := hs.out.2.2.2.2.2.cell 1 _ rfl
    obtain ⟨q2, _⟩ := hs.out.2.2.2.2.2.cell 2 _ rfl
    obtain ⟨q3, _⟩ := hs.out.2.2.2.2.2.cell 3 _ rfl
    obtain ⟨q4, _⟩ := hs.out.2.2.2.2.2.cell 4 _ rfl
    obtain ⟨q5, _⟩ := hs.out.2.2.2.2.2.cell 5 _ rfl
    clear KC KS KO B0 N0 B1 HN1
    cases hi with
    | true =>
      obtain ⟨rfl, rfl⟩ := HY.out (by rw [← hok]; rfl)
      clear HY HZ hok
      go_wp2_with (first
        | (go_at_call 27; refine (KB.out b1 b2 b3 _ hs.out.2.2.2.2.1 hs.out.2.1 hs.out.2.2.1 hs.out.2.2.2.1).mono ?_; rintro e w2 ⟨rfl, hb2⟩; have T2 := Lib.hid (hs.out.1.below hb2); have X2 := Lib.hid (And.intro (hs.out.2.1.below hb2) (And.intro (hs.out.2.2.1.below hb2) (hs.out.2.2.2.1.below hb2))); have C2 := Lib.hid (bl_trans hs.out.2.2.2.2.1 hb2); have N2 := Lib.hid (hs.out.2.2.2.2.2.below hb2); clear hb2; obtain ⟨s0, _⟩ := T2.out.cell 0 _ rfl; obtain ⟨s1, _⟩ := T2.out.cell 1 _ rfl; obtain ⟨s2, _⟩ := T2.out.cell 2 _ rfl; obtain ⟨p0, _⟩ := N2.out.cell 0 _ rfl; obtain ⟨p1, _⟩ := N2.out.cell 1 _ rfl; obtain ⟨p2, _⟩ := N2.out.cell 2 _ rfl; obtain ⟨p3, _⟩ := N2.out.cell 3 _ rfl; obtain ⟨p4, _⟩ := N2.out.cell 4 _ rfl; obtain ⟨p5, _⟩ := N2.out.cell 5 _ rfl)
        | (go_at_call 28; refine (KQ.out w2).mono ?_; rintro e w3 ⟨rfl, hb3⟩; have T3 := Lib.hid (T2.out.below hb3); have X3 := Lib.hid (And.intro (X2.out.1.below hb3) (And.intro (X2.out.2.1.below hb3) (X2.out.2.2.below hb3))); have C3 := Lib.hid (bl_trans C2.out hb3); clear hb3; obtain ⟨r0, _⟩ := T3.out.cell 0 _ rfl; obtain ⟨r1, _⟩ := T3.out.cell 1 _ rfl; obtain ⟨r2, _⟩ := T3.out.cell 2 _ rfl)
        | (go_at_call 29; refine (KF.out b1 b2 b3 _ C2.out X2.out.1 X2.out.2.1 X2.out.2.2).mono ?_; rintro e w4 ⟨rfl, hb4⟩; have C4 := Lib.hid (bl_trans C2.out hb4); clear hb4)
        | (go_at_call 30; refine (fiveList_any _ _ _ _ _ _).mono ?_; rintro e w5 ⟨rfl, rfl⟩))
      go_ret2
      exact ⟨some ⟨w4.heap.size, 0, none⟩, 5, rfl, row_blk (blk_new w4 58 (ints [y0, y1, y2, y3, y4])) C4.out.size, bl_alloc C4.out _⟩
    | false =>
      cases ok with
      | true =>
        obtain ⟨rfl, rfl⟩ := HY.out rfl
        have hok' : countsB lo x = true := by simpa using hok
        rw [hok'] at KQ
        clear HY HZ hok hok'
        go_wp2_with (first
        | (go_at_call 27; refine (KB.out b1 b2 b3 _ hs.out.2.2.2.2.1 hs.out.2.1 hs.out.2.2.1 hs.out.2.2.2.1).mono ?_; rintro e w2 ⟨rfl, hb2⟩; have T2 := Lib.hid (hs.out.1.below hb2); have X2 := Lib.hid (And.intro (hs.out.2.1.below hb2) (And.intro (hs.out.2.2.1.below hb2) (hs.out.2.2.2.1.below hb2))); have C2 := Lib.hid (bl_trans hs.out.2.2.2.2.1 hb2); have N2 := Lib.hid (hs.out.2.2.2.2.2.below hb2); clear hb2; obtain ⟨s0, _⟩ := T2.out.cell 0 _ rfl; obtain ⟨s1, _⟩ := T2.out.cell 1 _ rfl; obtain ⟨s2, _⟩ := T2.out.cell 2 _ rfl; obtain ⟨p0, _⟩ := N2.out.cell 0 _ rfl; obtain ⟨p1, _⟩ := N2.out.cell 1 _ rfl; obtain ⟨p2, _⟩ := N2.out.cell 2 _ rfl; obtain ⟨p3, _⟩ := N2.out.cell 3 _ rfl; obtain ⟨p4, _⟩ := N2.out.cell 4 _ rfl; obtain ⟨p5, _⟩ := N2.out.cell 5 _ rfl)
        | (go_at_call 28; refine (KQ.out w2).mono ?_; rintro e w3 ⟨rfl, hb3⟩; have T3 := Lib.hid (T2.out.below hb3); have X3 := Lib.hid (And.intro (X2.out.1.below hb3) (And.intro (X2.out.2.1.below hb3) (X2.out.2.2.below hb3))); have C3 := Lib.hid (bl_trans C2.out hb3); clear hb3; obtain ⟨r0, _⟩ := T3.out.cell 0 _ rfl; obtain ⟨r1, _⟩ := T3.out.cell 1 _ rfl; obtain ⟨r2, _⟩ := T3.out.cell 2 _ rfl)
        | (go_at_call 29; refine (KF.out b1 b2 b3 _ C3.out X3.out.1 X3.out.2.1 X3.out.2.2).mono ?_; rintro e w4 ⟨rfl, hb4⟩; have C4 := Lib.hid (bl_trans C3.out hb4); clear hb4)
        | (go_at_call 30; refine (fiveList_any _ _ _ _ _ _).mono ?_; rintro e w5 ⟨rfl, rfl⟩))
        go_ret2
        exact ⟨some ⟨w4.heap.size, 0, none⟩, 5, rfl, row_blk (blk_new w4 58 (ints [y0, y1, y2, y3, y4])) C4.out.size, bl_alloc C4.out _⟩
      | false =>
        obtain ⟨rfl, rfl⟩ := HZ.out rfl
        have hok' : countsB lo x = false := by simpa using hok
        rw [hok'] at KQ
        clear HY HZ hok hok'
        go_wp2_with (first
        | (go_at_call 27; refine (KB.out b1 b2 b3 _ hs.out.2.2.2.2.1 hs.out.2.1 hs.out.2.2.1 hs.out.2.2.2.1).mono ?_; rintro e w2 ⟨rfl, hb2⟩; have T2 := Lib.hid (hs.out.1.below hb2); have X2 := Lib.hid (And.intro (hs.out.2.1.below hb2) (And.intro (hs.out.2.2.1.below hb2) (hs.out.2.2.2.1.below hb2))); have C2 := Lib.hid (bl_trans hs.out.2.2.2.2.1 hb2); have N2 := Lib.hid (hs.out.2.2.2.2.2.below hb2); clear hb2; obtain ⟨s0, _⟩ := T2.out.cell 0 _ rfl; obtain ⟨s1, _⟩ := T2.out.cell 1 _ rfl; obtain ⟨s2, _⟩ := T2.out.cell 2 _ rfl; obtain ⟨p0, _⟩ := N2.out.cell 0 _ rfl; obtain ⟨p1, _⟩ := N2.out.cell 1 _ rfl; obtain ⟨p2, _⟩ := N2.out.cell 2 _ rfl; obtain ⟨p3, _⟩ := N2.out.cell 3 _ rfl; obtain ⟨p4, _⟩ := N2.out.cell 4 _ rfl; obtain ⟨p5, _⟩ := N2.out.cell 5 _ rfl)
        | (go_at_call 28; refine (KQ.out w2).mono ?_; rintro e w3 ⟨rfl, hb3⟩; have T3 := Lib.hid (T2.out.below hb3); have X3 := Lib.hid (And.intro (X2.out.1.below hb3) (And.intro (X2.out.2.1.below hb3) (X2.out.2.2.below hb3))); have C3 := Lib.hid (bl_trans C2.out hb3); clear hb3; obtain ⟨r0, _⟩ := T3.out.cell 0 _ rfl; obtain ⟨r1, _⟩ := T3.out.cell 1 _ rfl; obtain ⟨r2, _⟩ := T3.out.cell 2 _ rfl)
        | (go_at_call 29; refine (KF.out b1 b2 b3 _ C3.out X3.out.1 X3.out.2.1 X3.out.2.2).mono ?_; rintro e w4 ⟨rfl, hb4⟩; have C4 := Lib.hid (bl_trans C3.out hb4); clear hb4)
        | (go_at_call 30; refine (fiveList_any _ _ _ _ _ _).mono ?_; rintro e w5 ⟨rfl, rfl⟩))
        go_ret2
        exact ⟨none, 0, rfl, Row.nil _ _, C3.out⟩
end Go.Proofs.YtlpkaflmhdgmmaaGreatDoor

/-! BestHandIn of the program. -/
namespace Go.Proofs.YtlpkaflmhdgmmaaGreatDoor
open Go.RowKit
set_option linter.unusedVariables false
attribute [local go_sem] Oper.semAt_some

/-- The first of the best is one of them, and none ahead of it is as good. -/
theorem be_facts (hi : Bool) (lo : Int) (L : List (List Int)) (hpos : 0 < L.length) (hcd : ∀ k, k < L.length → cardsB (L.getD k []) = true ∧ (L.getD k []).length = 5) :
    beI hi lo L < L.length ∧ (hi = true → hv (L.getD (beI hi lo L) []) = beV hi lo L ∧ (∀ k, k < beI hi lo L → hv (L.getD k []) ≠ beV hi lo L) ∧ mxV (fun k => hv (L.getD k [])) L.length = beV hi lo L) ∧
    (hi = false → loS lo (L.getD (beI hi lo L) []) = beV hi lo L ∧ (∀ k, k < beI hi lo L → loS lo (L.getD k []) ≠ beV hi lo L) ∧ mnV (fun k => loS lo (L.getD k [])) L.length = beV hi lo L) := by
  cases hi with
  | true =>
    have h0 : ∀ k, k < L.length → 0 ≤ (fun k => hv (L.getD k [])) k := fun k hk => (hv_bd _ (hcd k hk).1 (hcd k hk).2).1
    obtain ⟨a1, a2, a3⟩ := top_all (fun k => hv (L.getD k [])) L.length hpos h0
    exact ⟨topI_lt _ _ hpos, fun _ => ⟨a1, fun k hk => Int.ne_of_lt (a3 k hk), mx_top _ _ hpos h0⟩, fun h => by cases h⟩
  | false =>
    have h0 : ∀ k, k < L.length → 0 ≤ (fun k => loS lo (L.getD k [])) k ∧ (fun k => loS lo (L.getD k [])) k ≤ 4000000 := fun k hk => loS_bd lo _ (hcd k hk).1 (hcd k hk).2
    obtain ⟨a0, a1, a2, a3, a4⟩ := low_all (fun k => loS lo (L.getD k [])) L.length hpos (fun k hk => (h0 k hk).1)
    exact ⟨a0, (fun h => by cases h), fun _ => ⟨a1, fun k hk => Int.ne_of_gt (a4 k hk), mn_low _ _ hpos h0⟩⟩
theorem be_yes {l m : Nat} {hi : Bool} {lo : Int} {hs bs : List Int} (hcz : codeH (hs.length : Int) l m (bs.length : Int) hi lo hs bs = 0) (h : beOk hi lo (hRows hs bs l (m + 1 - l)) = true) :
    beR (hs.length : Int) l m (bs.length : Int) hi lo hs bs = (hRows hs bs l (m + 1 - l)).getD (beI hi lo (hRows hs bs l (m + 1 - l))) [] ∧ beC (hs.length : Int) l m (bs.length : Int) hi lo hs bs = 0 := by
  have e : beC (hs.length : Int) l m (bs.length : Int) hi lo hs bs = 0 := by
    unfold beC
    rw [if_pos hcz, if_pos (show beOk hi lo (handsH l m hs bs) = true from h)]
  refine ⟨?_, e⟩
  unfold beR
  rw [if_pos e]
  rfl
theorem be_no {l m : Nat} {hi : Bool} {lo : Int} {hs bs : List Int} (hcz : codeH (hs.length : Int) l m (bs.length : Int) hi lo hs bs = 0) (h : beOk hi lo (hRows hs bs l (m + 1 - l)) = false) :
    beR (hs.length : Int) l m (bs.length : Int) hi lo hs bs = [] ∧ beC (hs.length : Int) l m (bs.length : Int) hi lo hs bs = 4 := by
  have e : beC (hs.length : Int) l m (bs.length : Int) hi lo hs bs = 4 := by
    unfold beC
    rw [if_pos hcz, if_neg (show ¬ beOk hi lo (handsH l m hs bs) = true from by rw [show beOk hi lo (handsH l m hs bs) = false from h]; decide)]
  refine ⟨?_, e⟩
  unfold beR
  rw [e]
  rfl
set_option maxRecDepth 100000 in
set_option maxHeartbeats 4000000 in
theorem implBest_yes (l m : Nat) (hi : Bool) (lo : Int) (A : Option Addr) (c : Nat) (hs : List Int) (A2 : Option Addr) (c2 : Nat) (bs : List Int) (B : Nat) (wt w : World) (ht : Hid (Low B wt)) (hB : Hid (Below B wt w)) (hBw : Hid (B ≤ w.heap.size)) (hcz : codeH (hs.length : Int) l m (bs.length : Int) hi lo hs bs = 0) (hr : Rd w A hs) (hr2 : Rd w A2 bs) :
    Calls Tryz.prog 7 #[vV (hs.length : Int) l m (bs.length : Int) hi lo, .slice A hs.length c, .slice A2 bs.length c2] w (NewRC (beR (hs.length : Int) l m (bs.length : Int) hi lo hs bs) (beC (hs.length : Int) l m (bs.length : Int) hi lo hs bs) w) := by
  obtain ⟨hvv, _⟩ := code_zero hcz
  have hcc := code_cards hcz
  obtain ⟨⟨f1, f2⟩, ⟨f3, f4⟩, ⟨f5, f6⟩, ⟨f7, f8⟩, f9⟩ := hasCards_iff.1 (isVar_cards hvv)
  have hh : hs.length ≤ 7 := by omega
  have hb7 : bs.length ≤ 7 := by omega
  have hlm : l ≤ m := by omega
  have hm5 : m ≤ 5 := by omega
  have hm64 : i64B (m : Int) := by unfold i64B; omega
  have hpos : 0 < (hRows hs bs l (m + 1 - l)).length := hRows_pos hs bs l m hh hb7 hlm hm5 (by omega) (by omega)
  have hcd := fun k hk => hRows_cards_at hs bs l (m + 1 - l) (by omega) hcc k hk
  obtain ⟨hix, hT, hF⟩ := be_facts hi lo (hRows hs bs l (m + 1 - l)) hpos hcd
  obtain ⟨y0, y1, y2, y3, y4, ey⟩ := list_five _ (hcd _ hix).2
  have HY : Hid (beOk hi lo (hRows hs bs l (m + 1 - l)) = true → beR (hs.length : Int) l m (bs.length : Int) hi lo hs bs = [y0, y1, y2, y3, y4] ∧ beC (hs.length : Int) l m (bs.length : Int) hi lo hs bs = 0) := Lib.hid (fun h => by rw [← ey]; exact be_yes hcz h)
  have HZ : Hid (beOk hi lo (hRows hs bs l (m + 1 - l)) = false → beR (hs.length : Int) l m (bs.length : Int) hi lo hs bs = [] ∧ beC (hs.length : Int) l m (bs.length : Int) hi lo hs bs = 4) := Lib.hid (fun h => be_no hcz h)
  have KC := Lib.hid (fun (W : World) (hb : Below w.heap.size w W) => codeFor_any (hs.length : Int) l m (bs.length : Int) hi lo A c hs A2 c2 bs W hm64 (hr.below hb) (hr2.below hb) (by omega) (by omega))
  rw [hcz] at KC
  cases hi with
  | true =>
    obtain ⟨t1, t2, t3⟩ := hT rfl
    refine implBest_walk _ _ _ _ true lo A c _ A2 c2 _ (.func 39) #[] 62 (-9223372036854775808) (beV true lo (hRows hs bs l (m + 1 - l))) y0 y1 y2 y3 y4 (beOk true lo (hRows hs bs l (m + 1 - l))) _ _ rfl HY HZ w KC
      (Lib.hid fun W => mainScale_hi _ _ _ _ lo _ _ _ _ W (Lib.hid fun W' => highScale_any W'))
      (Lib.hid fun b1 b2 b3 W hb h1 h2 h3 => by
        have h := bestValue6_any A c hs A2 c2 bs l m b1 b2 b3 true lo B wt W ht (Lib.hid (hB.out.trans (hb.mono hBw.out))) (Lib.hid (Nat.le_trans hBw.out hb.size)) h1 h2 h3 (hr.below hb) (hr2.below hb) hh hb7 hlm hm5 hcc
        rw [t3] at h
        exact h)
      (Lib.hid fun b1 b2 b3 W hb h1 h2 h3 => by
        have h := firstHi_any A c hs A2 c2 bs l m b1 b2 b3 true lo B wt W ht (Lib.hid (hB.out.trans (hb.mono hBw.out))) (Lib.hid (Nat.le_trans hBw.out hb.size)) h1 h2 h3 (hr.below hb) (hr2.below hb) hh hb7 hlm hm5 hcc _ hix _ t1 t2
        rw [ey] at h
        exact h)
  | false =>
    obtain ⟨t1, t2, t3⟩ := hF rfl
    by_cases hl : lo = 3
    · have el : ∀ xs, loS lo xs = duS xs := fun xs => by unfold loS; rw [if_pos hl]
      simp only [el] at t1 t2 t3
      refine implBest_walk _ _ _ _ false lo A c _ A2 c2 _ lowF #[.iface 92 (.agg #[])] 63 9223372036854775807 (beV false lo (hRows hs bs l (m + 1 - l))) y0 y1 y2 y3 y4 (beOk false lo (hRows hs bs l (m + 1 - l))) _ _ rfl HY HZ w KC
        (Lib.hid fun W => mainScale_lo _ _ _ _ lo _ _ _ _ W (Lib.hid fun W' => by
          have h := lowScale_deu (hs.length : Int) l m (bs.length : Int) false lo W' hl
          rw [show loV lo = deuV from by unfold loV; rw [if_pos hl]] at h
          exact h))
        (Lib.hid fun b1 b2 b3 W hb h1 h2 h3 => by
          have h := bestdeu_any A c hs A2 c2 bs l m b1 b2 b3 false lo B wt W ht (Lib.hid (hB.out.trans (hb.mono hBw.out))) (Lib.hid (Nat.le_trans hBw.out hb.size)) h1 h2 h3 (hr.below hb) (hr2.below hb) hh hb7 hlm hm5 hcc
          rw [t3] at h
          exact h)
        (Lib.hid fun b1 b2 b3 W hb h1 h2 h3 => by
          have h := firstDeu_any A c hs A2 c2 bs l m b1 b2 b3 false lo B wt W ht (Lib.hid (hB.out.trans (hb.mono hBw.out))) (Lib.hid (Nat.le_trans hBw.out hb.size)) h1 h2 h3 (hr.below hb) (hr2.below hb) hh hb7 hlm hm5 hcc _ hix _ t1 t2
          rw [ey] at h
          exact h)
    · have el : ∀ xs, loS lo xs = aceS xs := fun xs => by unfold loS; rw [if_neg hl]
      simp only [el] at t1 t2 t3
      refine implBest_walk _ _ _ _ false lo A c _ A2 c2 _ lowF #[.iface 71 (.agg #[])] 63 9223372036854775807 (beV false lo (hRows hs bs l (m + 1 - l))) y0 y1 y2 y3 y4 (beOk false lo (hRows hs bs l (m + 1 - l))) _ _ rfl HY HZ w KC
        (Lib.hid fun W => mainScale_lo _ _ _ _ lo _ _ _ _ W (Lib.hid fun W' => by
          have h := lowScale_ace (hs.length : Int) l m (bs.length : Int) false lo W' hl
          rw [show loV lo = aceV from by unfold loV; rw [if_neg hl]] at h
          exact h))
        (Lib.hid fun b1 b2 b3 W hb h1 h2 h3 => by
          have h := bestace_any A c hs A2 c2 bs l m b1 b2 b3 false lo B wt W ht (Lib.hid (hB.out.trans (hb.mono hBw.out))) (Lib.hid (Nat.le_trans hBw.out hb.size)) h1 h2 h3 (hr.below hb) (hr2.below hb) hh hb7 hlm hm5 hcc
          rw [t3] at h
          exact h)
        (Lib.hid fun b1 b2 b3 W hb h1 h2 h3 => by
          have h := firstAce_any A c hs A2 c2 bs l m b1 b2 b3 false lo B wt W ht (Lib.hid (hB.out.trans (hb.mono hBw.out))) (Lib.hid (Nat.le_trans hBw.out hb.size)) h1 h2 h3 (hr.below hb) (hr2.below hb) hh hb7 hlm hm5 hcc _ hix _ t1 t2
          rw [ey] at h
          exact h)

set_option maxRecDepth 100000 in
set_option maxHeartbeats 4000000 in
theorem implBest_any (h l m b : Int) (hi : Bool) (lo : Int) (A : Option Addr) (c : Nat) (hs : List Int) (A2 : Option Addr) (c2 : Nat) (bs : List Int) (B : Nat) (wt w : World) (ht : Hid (Low B wt)) (hB : Hid (Below B wt w)) (hBw : Hid (B ≤ w.heap.size)) (hm64 : i64B m) (hr : Rd w A hs) (hr2 : Rd w A2 bs) (hn : hs.length ≤ 2000000) (hn2 : bs.length ≤ 2000000) :
    Calls Tryz.prog 7 #[vV h l m b hi lo, .slice A hs.length c, .slice A2 bs.length c2] w (NewRC (beR h l m b hi lo hs bs) (beC h l m b hi lo hs bs) w) := by
  by_cases h0 : codeH h l m b hi lo hs bs = 0
  · obtain ⟨hv, e1, e2⟩ := code_zero h0
    subst e1
    subst e2
    obtain ⟨_, _, ⟨f5, f6⟩, _⟩ := hasCards_iff.1 (isVar_cards hv)
    obtain ⟨l', rfl⟩ := Int.eq_ofNat_of_zero_le f5
    obtain ⟨m', rfl⟩ := Int.eq_ofNat_of_zero_le (Int.le_trans f5 f6)
    exact implBest_yes l' m' hi lo A c hs A2 c2 bs B wt w ht hB hBw h0 hr hr2
  · have e : beC h l m b hi lo hs bs = codeH h l m b hi lo hs bs := by unfold beC; rw [if_neg h0]
    have e2 : beR h l m b hi lo hs bs = [] := by unfold beR; rw [e, if_neg h0]
    rw [e, e2]
    have KC := Lib.hid (fun (W : World) (hb : Below w.heap.size w W) => codeFor_any h l m b hi lo A c hs A2 c2 bs W hm64 (hr.below hb) (hr2.below hb) hn hn2)
    have B0 := Lib.hid (bl_alloc (bl_refl w) (.cells ([.int .i64 h, .int .i64 l, .int .i64 m, .int .i64 b, .bool hi, .int .i64 lo] : List Value).toArray 25))
    clear e e2
    generalize codeH h l m b hi lo hs bs = k at *
    have hk : (k == 0) = false := by simp [h0]
    clear hr hr2
    unfold vV at *
    go_enter Tryz.func7, Tryz.ntmps7
    go_wp2_with (go_at_call 24; refine (KC.out _ B0.out).mono ?_; rintro e w1 ⟨rfl, hb1⟩; have B1 := Lib.hid (bl_trans B0.out hb1); clear hb1)
    go_ret2
    exact ⟨none, 0, rfl, Row.nil _ _, B1.out⟩
end Go.Proofs.YtlpkaflmhdgmmaaGreatDoor
