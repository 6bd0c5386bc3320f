/-
  Put together: BestImpl, BestFns
-/
import Derived.Test.YtjchjjnmahddiaaDoorIter
import Derived.Test.YtjchjjnmahddiaaDoorVal

/-! The program's best five of some cards. -/
namespace Go.Proofs.YtjchjjnmahddiaaDoor
open Go.RowKit
set_option linter.unusedVariables false
attribute [local go_sem] Oper.semAt_some

/-- The best five so far. -/
def bestF (xs : List Int) (k : Nat) : List Int := if k = 0 then [0, 0, 0, 0, 0] else (ch 5 xs).getD (bestI hv (ch 5 xs) k).1 []
def bestV (xs : List Int) (k : Nat) : Int := (bestI hv (ch 5 xs) k).2
theorem best_yes (xs : List Int) (k : Nat) (h : bestV xs k < hv ((ch 5 xs).getD k [])) : bestF xs (k + 1) = (ch 5 xs).getD k [] ∧ bestV xs (k + 1) = hv ((ch 5 xs).getD k []) := by
  unfold bestF bestV
  rw [bestI_yes hv _ k h, if_neg (by omega)]
  exact ⟨rfl, rfl⟩
theorem best_no (xs : List Int) (k : Nat) (hk : 0 < k) (h : ¬ bestV xs k < hv ((ch 5 xs).getD k [])) : bestF xs (k + 1) = bestF xs k ∧ bestV xs (k + 1) = bestV xs k := by
  unfold bestF bestV
  rw [bestI_no hv _ k h, if_neg (by omega), if_neg (by omega)]
  exact ⟨rfl, rfl⟩
theorem bestV_pos (xs : List Int) (hb : cardsB xs = true) (k : Nat) (h : k ≤ (ch 5 xs).length) : -1 ≤ bestV xs k ∧ bestV xs k < 3341637 := by
  induction k with
  | zero => unfold bestV; simp [bestI]
  | succ k ih =>
    have hc := ch_cards xs hb k (by omega)
    have hv' := hv_bd _ hc.1 hc.2
    by_cases c : bestV xs k < hv ((ch 5 xs).getD k [])
    · rw [(best_yes xs k c).2]; omega
    · have : bestV xs (k + 1) = bestV xs k := by unfold bestV; rw [bestI_no hv _ k c]
      rw [this]; exact ih (by omega)
theorem bestF_len (xs : List Int) (hb : cardsB xs = true) (k : Nat) (h : k ≤ (ch 5 xs).length) : (bestF xs k).length = 5 := by
  unfold bestF
  split
  · rfl
  · exact (ch_cards xs hb _ (by have := bestI_lt hv (ch 5 xs) k h; omega)).2
theorem best_first (xs : List Int) (hb : cardsB xs = true) (h0 : 0 < (ch 5 xs).length) : bestV xs 0 < hv ((ch 5 xs).getD 0 []) := by
  have hc := ch_cards xs hb 0 h0
  have := hv_bd _ hc.1 hc.2
  have e : bestV xs 0 = -1 := rfl
  omega

/-- What the loop's rounds keep. -/
def BestSt (w : World) (A : Option Addr) (c : Nat) (xs : List Int) (i : Nat) (W : World) : Prop :=
  Blk W w.heap.size 37 [.slice A xs.length c] ∧ Blk W (w.heap.size + 1) 84 (ints [0, 0, 0, 0, 0]) ∧ Blk W (w.heap.size + 1 + 1) 84 (ints (bestF xs i)) ∧
  Blk W (w.heap.size + 1 + 1 + 1) 2 (ints [bestV xs i]) ∧ Blk W (w.heap.size + 1 + 1 + 1 + 1) 3 (ints [(xs.length : Int)]) ∧ Blk W (w.heap.size + 1 + 1 + 1 + 1 + 1) 3 (ints [5]) ∧ Below w.heap.size w W
theorem BestSt.keep {w A B : World} {Ad : Option Addr} {c : Nat} {xs : List Int} {i n0 : Nat} (h : BestSt w Ad c xs i A) (hb : Below n0 A B) (hn : w.heap.size + 1 + 1 + 1 + 1 + 1 < n0) : BestSt w Ad c xs i B := by
  obtain ⟨h1, h2, h3, h4, h5, h6, h7⟩ := h
  have k : ∀ {g : Nat} {t : TypeId} {vs : List Value}, Blk A g t vs → g < n0 → Blk B g t vs := fun hq hg => (hb.block _ hg).trans hq
  exact ⟨k h1 (by omega), k h2 (by omega), k h3 (by omega), k h4 (by omega), k h5 (by omega), k h6 (by omega), h7.trans (hb.mono (by omega))⟩

theorem best_start (w : World) (A : Option Addr) (c : Nat) (xs : List Int) :
    BestSt w A c xs 0 ((((((w.alloc (.cells #[.slice A xs.length c] 37)).alloc (.cells #[.int .i64 0, .int .i64 0, .int .i64 0, .int .i64 0, .int .i64 0] 84)).alloc (.cells #[.int .i64 0, .int .i64 0, .int .i64 0, .int .i64 0, .int .i64 0] 84)).alloc (.cells #[.int .i64 (-1)] 2)).alloc (.cells #[.int .i64 xs.length] 3)).alloc (.cells #[.int .i64 5] 3)) := by
  obtain ⟨o0, e0⟩ : ∃ o, o = Obj.cells #[Value.slice A xs.length c] 37 := ⟨_, rfl⟩
  obtain ⟨o1, e1⟩ : ∃ o, o = Obj.cells #[Value.int .i64 0, .int .i64 0, .int .i64 0, .int .i64 0, .int .i64 0] 84 := ⟨_, rfl⟩
  obtain ⟨o3, e3⟩ : ∃ o, o = Obj.cells #[Value.int .i64 (-1)] 2 := ⟨_, rfl⟩
  obtain ⟨o4, e4⟩ : ∃ o, o = Obj.cells #[Value.int .i64 xs.length] 3 := ⟨_, rfl⟩
  obtain ⟨o5, e5⟩ : ∃ o, o = Obj.cells #[Value.int .i64 5] 3 := ⟨_, rfl⟩
  rw [← e0, ← e1, ← e3, ← e4, ← e5]
  have up : ∀ (W : World) (o : Obj) {g : Nat} {t : TypeId} {vs : List Value}, Blk W g t vs → Blk (W.alloc o) g t vs := fun W o _ _ _ h => h.below (bl_alloc (bl_refl W) o)
  have n0 : Blk (w.alloc o0) w.heap.size 37 [.slice A xs.length c] := by rw [e0]; exact blk_new w _ _
  have n1 : Blk ((w.alloc o0).alloc o1) (w.heap.size + 1) 84 (ints [0, 0, 0, 0, 0]) := by
    have := blk_new (w.alloc o0) 84 (ints [0, 0, 0, 0, 0]); rw [World.size_alloc] at this; rw [e1]; exact this
  have n2 : Blk (((w.alloc o0).alloc o1).alloc o1) (w.heap.size + 1 + 1) 84 (ints (bestF xs 0)) := by
    have := blk_new ((w.alloc o0).alloc o1) 84 (ints [0, 0, 0, 0, 0]); rw [World.size_alloc, World.size_alloc] at this
    have e : (((w.alloc o0).alloc o1).alloc o1) = ((w.alloc o0).alloc o1).alloc (Obj.cells (ints [0, 0, 0, 0, 0]).toArray 84) := by rw [e1]; rfl
    rw [e]; exact this
  have n3 : Blk ((((w.alloc o0).alloc o1).alloc o1).alloc o3) (w.heap.size + 1 + 1 + 1) 2 (ints [bestV xs 0]) := by
    have := blk_new (((w.alloc o0).alloc o1).alloc o1) 2 (ints [-1]); rw [World.size_alloc, World.size_alloc, World.size_alloc] at this; rw [e3]; exact this
  have n4 : Blk (((((w.alloc o0).alloc o1).alloc o1).alloc o3).alloc o4) (w.heap.size + 1 + 1 + 1 + 1) 3 (ints [(xs.length : Int)]) := by
    have := blk_new ((((w.alloc o0).alloc o1).alloc o1).alloc o3) 3 (ints [(xs.length : Int)]); rw [World.size_alloc, World.size_alloc, World.size_alloc, World.size_alloc] at this; rw [e4]; exact this
  have n5 : Blk ((((((w.alloc o0).alloc o1).alloc o1).alloc o3).alloc o4).alloc o5) (w.heap.size + 1 + 1 + 1 + 1 + 1) 3 (ints [5]) := by
    have := blk_new (((((w.alloc o0).alloc o1).alloc o1).alloc o3).alloc o4) 3 (ints [5]); rw [World.size_alloc, World.size_alloc, World.size_alloc, World.size_alloc, World.size_alloc] at this; rw [e5]; exact this
  exact ⟨up _ _ (up _ _ (up _ _ (up _ _ (up _ _ n0)))), up _ _ (up _ _ (up _ _ (up _ _ n1))), up _ _ (up _ _ (up _ _ n2)), up _ _ (up _ _ n3), up _ _ n4, n5, bl_alloc (bl_alloc (bl_alloc (bl_alloc (bl_alloc (bl_alloc (bl_refl w) _) _) _) _) _) _⟩
theorem best_set {w6 : World} {g3 g4 : Nat} {t3 t4 : TypeId} {b0 b1 b2 b3 b4 q : Int} (x0 x1 x2 x3 x4 v : Int) (h3 : Blk w6 g3 t3 (ints [b0, b1, b2, b3, b4])) (h4 : Blk w6 g4 t4 (ints [q])) (hne : g4 ≠ g3) :
    ∃ W5 W6, W6 = ((((((w6.setCell ⟨g3, 0, none⟩ (.int .i64 x0)).setCell ⟨g3, 1, none⟩ (.int .i64 x1)).setCell ⟨g3, 2, none⟩ (.int .i64 x2)).setCell ⟨g3, 3, none⟩ (.int .i64 x3)).setCell ⟨g3, 4, none⟩ (.int .i64 x4)).setCell ⟨g4, 0, none⟩ (.int .i64 v)) ∧
      Blk W6 g3 t3 (ints [x0, x1, x2, x3, x4]) ∧ Blk W6 g4 t4 (ints [v]) ∧ w6.grownBy W5 (some g3) ∧ W5.grownBy W6 (some g4) := by
  have s0 := blk_setI h3 0 x0
  have s1 := blk_setI s0.1 1 x1
  have s2 := blk_setI s1.1 2 x2
  have s3 := blk_setI s2.1 3 x3
  have s4 := blk_setI s3.1 4 x4
  have hg := (((s0.2.trans s1.2).trans s2.2).trans s3.2).trans s4.2
  have s5 := blk_setI (h4.grown hg (fun e => hne (Option.some.inj e))) 0 v
  exact ⟨_, _, rfl, s4.1.grown s5.2 (fun e => hne (Option.some.inj e).symm), s5.1, hg, s5.2⟩
/-- What bestHighFive leaves: five cards by value, and their value. -/
def Best5 (xs : List Int) (w : World) (e : Ending) (w' : World) : Prop := e = .returned (.tuple #[aggI (bestF xs (ch 5 xs).length), .int .i64 (bestV xs (ch 5 xs).length)]) ∧ Below w.heap.size w w'
set_option maxRecDepth 100000 in
set_option maxHeartbeats 8000000 in
theorem bestHigh_any (A : Option Addr) (c : Nat) (xs : List Int) (B : Nat) (wt w : World) (ht : Hid (Low B wt)) (hB : Hid (Below B wt w)) (hBw : Hid (B ≤ w.heap.size)) (hr : Rd w A xs) (h5 : 5 ≤ xs.length) (h8 : xs.length ≤ 8) (hb : cardsB xs = true) :
    Calls Tryd.prog 54 #[.slice A xs.length c] w (Best5 xs w) := by
  have HR := Lib.hid hr
  have HC := Lib.hid hb
  have H5 := Lib.hid h5
  have H8 := Lib.hid h8
  clear hr hb
  refine (callsIn_wide (n := 3)).1 ?_
  refine callsIn_of_wp_marks Tryd.func54 rfl trivial ?_ rfl
  simp only [Tryd.ntmps54, List.size_toArray, List.length_cons, List.length_nil, Nat.reduceAdd, Nat.reduceSub, Array.replicate_succ, Array.replicate_zero, List.push_toArray, List.append_toArray, List.nil_append, List.cons_append]
  obtain ⟨w0, rfl⟩ : ∃ w0 : World, w0 = w := ⟨w, rfl⟩
  gi_wp2_with (refine ⟨trivial, ?_⟩; gi_at_call 71; refine (callsIn_wide.2 (choicesOf_any (xs.length : Int) _)).mono ?_; rintro e w1 ⟨rfl, rfl⟩)
  have HS := Lib.hid (best_start w0 A c xs)
  have hz : (((((((w0.alloc (.cells #[.slice A xs.length c] 37)).alloc (.cells #[.int .i64 0, .int .i64 0, .int .i64 0, .int .i64 0, .int .i64 0] 84)).alloc (.cells #[.int .i64 0, .int .i64 0, .int .i64 0, .int .i64 0, .int .i64 0] 84)).alloc (.cells #[.int .i64 (-1)] 2)).alloc (.cells #[.int .i64 xs.length] 3)).alloc (.cells #[.int .i64 5] 3))).heap.size = w0.heap.size + 1 + 1 + 1 + 1 + 1 + 1 := by simp
  obtain ⟨W0, eW⟩ : ∃ W0, W0 = (((((((w0.alloc (.cells #[.slice A xs.length c] 37)).alloc (.cells #[.int .i64 0, .int .i64 0, .int .i64 0, .int .i64 0, .int .i64 0] 84)).alloc (.cells #[.int .i64 0, .int .i64 0, .int .i64 0, .int .i64 0, .int .i64 0] 84)).alloc (.cells #[.int .i64 (-1)] 2)).alloc (.cells #[.int .i64 xs.length] 3)).alloc (.cells #[.int .i64 5] 3))) := ⟨_, rfl⟩
  rw [← eW] at HS hz
  rw [← eW]
  clear eW
  refine wpIn_range_run rfl (by omega) (gf := 86) (lb := #[.pointer (some ⟨w0.heap.size + 1 + 1 + 1 + 1 + 1, 0, none⟩), .pointer (some ⟨w0.heap.size + 1 + 1 + 1 + 1, 0, none⟩)]) rfl trivial (enters_of Tryd.func86 (by kernel_rfl) rfl)
    (iter_any 2 xs.length (w0.heap.size + 1 + 1 + 1 + 1 + 1) (w0.heap.size + 1 + 1 + 1 + 1) h5 h8 (BestSt w0 A c xs) W0 (by omega) (fun i W h => ⟨(h.2.2.2.2.2.1.cell 0 _ rfl).1, (h.2.2.2.2.1.cell 0 _ rfl).1⟩))
    (fun gb => rfl) (fun i A' B' h hb => h.keep hb (by omega)) (fun i gb A' B' h he => he.trans h) HS.out
    (fun gb => { tmps := #[.slice A xs.length c, .pointer (some ⟨w0.heap.size, 0, none⟩), .pointer (some ⟨w0.heap.size + 1, 0, none⟩), .int .i64 0, .pointer (some ⟨w0.heap.size + 1 + 1, 0, none⟩), .pointer (some ⟨w0.heap.size + 1 + 1 + 1, 0, none⟩), .slice (some ⟨gb, 0, none⟩) 5 5, undef, undef, .agg #[.int .i64 0, .int .i64 0, .int .i64 0, .int .i64 0, .int .i64 0], .slice A xs.length c, .int .i64 xs.length,
      .func (.func 86) #[] #[.pointer (some ⟨w0.heap.size + 1 + 1 + 1 + 1 + 1, 0, none⟩), .pointer (some ⟨w0.heap.size + 1 + 1 + 1 + 1, 0, none⟩)], .slice (some ⟨gb, 0, none⟩) 5 5, undef, undef, undef, undef, undef, undef, undef, undef, undef, undef, undef, undef, undef, undef], defers := [] }) ?assign ?body ?done (fun i gb W h => Blk.lt h)
  case assign =>
    intro l gb W K hK
    gi_wp2
    exact hK
  case body =>
    intro l i gb W hi hI hC hgb hgb2
    have HI := Lib.hid hI
    have HCh := Lib.hid hC
    have hlen : i < (ch 5 xs).length := by rw [ch_len]; exact hi
    obtain ⟨hcb, hc5⟩ := ch_cards xs HC.out i hlen
    obtain ⟨hl5, hxb, _⟩ := idx_facts xs.length h5 h8 i hi
    have RW := Lib.hid (HR.out.below hI.2.2.2.2.2.2)
    have KC := Lib.hid (chosen_any A c gb xs ((idx xs.length).getD i []) W RW.out h8 hC hl5 (fun y hy => hxb y hy))
    rw [← ch_at xs i hi] at KC
    have hbp := bestV_pos xs HC.out i (by omega)
    have hvp := hv_bd _ hcb hc5
    have KV := Lib.hid (fun (W' : World) (hb' : Below W.heap.size W W') => fiveValue_any ((ch 5 xs).getD i []) hcb hc5 B wt W' ht (Lib.hid (hB.out.trans ((HI.out.2.2.2.2.2.2.trans (hb'.mono HI.out.2.2.2.2.2.2.size)).mono hBw.out))) (Lib.hid (Nat.le_trans hBw.out (Nat.le_trans HI.out.2.2.2.2.2.2.size hb'.size))))
    have HY := Lib.hid (best_yes xs i)
    have HN := Lib.hid (best_no xs i)
    have HF := Lib.hid (fun (e : i = 0) => best_first xs HC.out (by omega))
    have HBL := Lib.hid (bestF_len xs HC.out i (by omega))
    obtain ⟨x0, x1, x2, x3, x4, ex⟩ := list_five ((ch 5 xs).getD i []) hc5
    have EX := Lib.hid ex
    rw [ex] at KC KV hvp
    obtain ⟨v, ev⟩ : ∃ v, v = hv [x0, x1, x2, x3, x4] := ⟨_, rfl⟩
    rw [← ev] at KV hvp
    obtain ⟨b0, b1, b2, b3, b4, eb⟩ := list_five (bestF xs i) HBL.out
    obtain ⟨r1, r2, r3, r4, r5, r6, r7⟩ := hI
    rw [eb] at r3
    have EB := Lib.hid eb
    obtain ⟨q, eq⟩ : ∃ q, q = bestV xs i := ⟨_, rfl⟩
    rw [← eq] at r4 hbp
    have EV := Lib.hid ev
    have EQ := Lib.hid eq
    clear eb ev eq ex
    have cl := (r1.cell 0 _ rfl).1
    have hsa := fun (g : Nat) (W' : World) => run_arr5 g 0 5 W'
    have hnn : 1 ≤ 3 - 1 - 1 := by omega
    by_cases hq : q < v
    · gi_wp2_with (first
        | (refine ⟨trivial, ?_⟩; gi_at_call 73; refine (CallsIn.inRound l (callsIn_wide.2 KC.out)).mono ?_; rintro e w5 ⟨rfl, hn5, hb5⟩; have B5 := Lib.hid hb5; have N5 := Lib.hid hn5; obtain ⟨y0, _⟩ := hn5.cell 0 _ rfl; obtain ⟨y1, _⟩ := hn5.cell 1 _ rfl; obtain ⟨y2, _⟩ := hn5.cell 2 _ rfl; obtain ⟨y3, _⟩ := hn5.cell 3 _ rfl; obtain ⟨y4, _⟩ := hn5.cell 4 _ rfl; clear hb5 hn5)
        | (refine ⟨trivial, ?_⟩; gi_at_call 60; refine (CallsIn.inRound l (callsIn_wide.2 (KV.out _ (bl_alloc B5.out _)))).mono ?_; rintro e w6 ⟨rfl, hb6⟩; have B6 := Lib.hid (bl_trans (bl_alloc B5.out _) hb6); have N6 := Lib.hid (Blk.below (blk_new w5 84 (ints [x0, x1, x2, x3, x4])) hb6); obtain ⟨z0, _⟩ := N6.out.cell 0 _ rfl; obtain ⟨z1, _⟩ := N6.out.cell 1 _ rfl; obtain ⟨z2, _⟩ := N6.out.cell 2 _ rfl; obtain ⟨z3, _⟩ := N6.out.cell 3 _ rfl; obtain ⟨z4, _⟩ := N6.out.cell 4 _ rfl; have R36 := r3.below B6.out; have R46 := r4.below B6.out; obtain ⟨p0, f0⟩ := R36.cell 0 _ rfl; obtain ⟨p1, f1⟩ := R36.cell 1 _ rfl; obtain ⟨p2, f2⟩ := R36.cell 2 _ rfl; obtain ⟨p3, f3⟩ := R36.cell 3 _ rfl; obtain ⟨p4, f4⟩ := R36.cell 4 _ rfl; obtain ⟨pv, fv⟩ := R46.cell 0 _ rfl; have H36 := Lib.hid R36; have H46 := Lib.hid R46; clear hb6 R36 R46))
      obtain ⟨W5, W6, e6, q3, q4, hgA, hgB⟩ := best_set x0 x1 x2 x3 x4 v H36.out H46.out (by omega)
      rw [← e6]
      have kp : KeepsOthers W W6 := by
        rw [e6]
        exact ((((((keeps_below B6.out).trans (KeepsOthers.setCell _ _ _)).trans (KeepsOthers.setCell _ _ _)).trans (KeepsOthers.setCell _ _ _)).trans (KeepsOthers.setCell _ _ _)).trans (KeepsOthers.setCell _ _ _)).trans (KeepsOthers.setCell _ _ _)
      have up : ∀ {g : Nat} {t : TypeId} {vs : List Value}, Blk W g t vs → g ≠ w0.heap.size + 1 + 1 → g ≠ w0.heap.size + 1 + 1 + 1 → Blk W6 g t vs := fun hq h1 h2 => ((hq.below B6.out).grown hgA (fun e => h1 (Option.some.inj e))).grown hgB (fun e => h2 (Option.some.inj e))
      obtain ⟨y1, y2⟩ := HY.out (by rw [EX.out, ← EV.out, ← EQ.out]; exact hq)
      rw [EX.out] at y1 y2
      exact ⟨⟨up r1 (by omega) (by omega), up r2 (by omega) (by omega), by rw [y1]; exact q3, by rw [y2, ← EV.out]; exact q4, up r5 (by omega) (by omega), up r6 (by omega) (by omega), bl_blk (bl_blk (bl_trans r7 B6.out) hgA (by omega)) hgB (by omega)⟩, up HCh.out (by omega) (by omega), kp⟩
    · gi_wp2_with (first
        | (refine ⟨trivial, ?_⟩; gi_at_call 73; refine (CallsIn.inRound l (callsIn_wide.2 KC.out)).mono ?_; rintro e w5 ⟨rfl, hn5, hb5⟩; have B5 := Lib.hid hb5; have N5 := Lib.hid hn5; obtain ⟨y0, _⟩ := hn5.cell 0 _ rfl; obtain ⟨y1, _⟩ := hn5.cell 1 _ rfl; obtain ⟨y2, _⟩ := hn5.cell 2 _ rfl; obtain ⟨y3, _⟩ := hn5.cell 3 _ rfl; obtain ⟨y4, _⟩ := hn5.cell 4 _ rfl; clear hb5 hn5)
        | (refine ⟨trivial, ?_⟩; gi_at_call 60; refine (CallsIn.inRound l (callsIn_wide.2 (KV.out _ (bl_alloc B5.out _)))).mono ?_; rintro e w6 ⟨rfl, hb6⟩; have B6 := Lib.hid (bl_trans (bl_alloc B5.out _) hb6); have N6 := Lib.hid (Blk.below (blk_new w5 84 (ints [x0, x1, x2, x3, x4])) hb6); obtain ⟨z0, _⟩ := N6.out.cell 0 _ rfl; obtain ⟨z1, _⟩ := N6.out.cell 1 _ rfl; obtain ⟨z2, _⟩ := N6.out.cell 2 _ rfl; obtain ⟨z3, _⟩ := N6.out.cell 3 _ rfl; obtain ⟨z4, _⟩ := N6.out.cell 4 _ rfl; have R36 := r3.below B6.out; have R46 := r4.below B6.out; obtain ⟨p0, f0⟩ := R36.cell 0 _ rfl; obtain ⟨p1, f1⟩ := R36.cell 1 _ rfl; obtain ⟨p2, f2⟩ := R36.cell 2 _ rfl; obtain ⟨p3, f3⟩ := R36.cell 3 _ rfl; obtain ⟨p4, f4⟩ := R36.cell 4 _ rfl; obtain ⟨pv, fv⟩ := R46.cell 0 _ rfl; have H36 := Lib.hid R36; have H46 := Lib.hid R46; clear hb6 R36 R46))
      have up : ∀ {g : Nat} {t : TypeId} {vs : List Value}, Blk W g t vs → Blk w6 g t vs := fun hq => hq.below B6.out
      have hi0 : 0 < i := by
        rcases Nat.eq_zero_or_pos i with h0 | h0
        · have := HF.out h0
          subst h0
          rw [EX.out, ← EV.out, ← EQ.out] at this
          exact absurd this (by omega)
        · exact h0
      obtain ⟨y1, y2⟩ := HN.out hi0 (by rw [EX.out, ← EV.out, ← EQ.out]; omega)
      exact ⟨⟨up r1, up r2, by rw [y1, EB.out]; exact H36.out, by rw [y2, ← EQ.out]; exact H46.out, up r5, up r6, bl_trans r7 B6.out⟩, up HCh.out, keeps_below B6.out⟩
  case done =>
    intro D W hD hI hK
    rw [← ch_len] at hI
    have HI := Lib.hid hI
    have hq := bestV_pos xs HC.out (ch 5 xs).length (by omega)
    have HBL := bestF_len xs HC.out (ch 5 xs).length (by omega)
    obtain ⟨b0, b1, b2, b3, b4, eb⟩ := list_five (bestF xs (ch 5 xs).length) HBL
    have EB := Lib.hid eb
    obtain ⟨q, eq⟩ : ∃ q, q = bestV xs (ch 5 xs).length := ⟨_, rfl⟩
    have EQ := Lib.hid eq
    obtain ⟨r1, r2, r3, r4, r5, r6, r7⟩ := hI
    rw [eb] at r3
    rw [← eq] at r4 hq
    clear eb eq HBL
    have H2 := Lib.hid r2
    obtain ⟨p0, f0⟩ := r2.cell 0 _ rfl; obtain ⟨p1, f1⟩ := r2.cell 1 _ rfl; obtain ⟨p2, f2⟩ := r2.cell 2 _ rfl; obtain ⟨p3, f3⟩ := r2.cell 3 _ rfl; obtain ⟨p4, f4⟩ := r2.cell 4 _ rfl
    obtain ⟨q0, _⟩ := r3.cell 0 _ rfl; obtain ⟨q1, _⟩ := r3.cell 1 _ rfl; obtain ⟨q2, _⟩ := r3.cell 2 _ rfl; obtain ⟨q3, _⟩ := r3.cell 3 _ rfl; obtain ⟨q4, _⟩ := r3.cell 4 _ rfl
    obtain ⟨qv, fv⟩ := r4.cell 0 _ rfl
    clear r2 r1 r3 r4 r5 r6
    gi_wp2
    gi_region
    gi_wp2
    have s0 := blk_setI H2.out 0 b0
    have s1 := blk_setI s0.1 1 b1
    have s2 := blk_setI s1.1 2 b2
    have s3 := blk_setI s2.1 3 b3
    have s4 := blk_setI s3.1 4 b4
    have hg := (((s0.2.trans s1.2).trans s2.2).trans s3.2).trans s4.2
    obtain ⟨W5, e5⟩ : ∃ W5, W5 = ((((W.setCell ⟨w0.heap.size + 1, 0, none⟩ (.int .i64 b0)).setCell ⟨w0.heap.size + 1, 1, none⟩ (.int .i64 b1)).setCell ⟨w0.heap.size + 1, 2, none⟩ (.int .i64 b2)).setCell ⟨w0.heap.size + 1, 3, none⟩ (.int .i64 b3)).setCell ⟨w0.heap.size + 1, 4, none⟩ (.int .i64 b4) := ⟨_, rfl⟩
    have h5b := s4.1
    rw [← e5] at hg h5b
    rw [← e5]
    clear e5 s0 s1 s2 s3 s4
    have hK5 : W5.drew.heap[D]? = some (Obj.deferred (some [])) := (hg.block D (Array.getElem?_eq_some_iff.1 hK).1 (fun e => by have := Option.some.inj e; omega)).trans hK
    refine ⟨by simp, .inl ⟨_, _, rfl, run_takeDeferred hK5, ?_⟩⟩
    have h6 : Blk (W5.drew.putObj D (.deferred none)) (w0.heap.size + 1) 84 (ints [b0, b1, b2, b3, b4]) := (World.putObj_heap_other (by omega)).trans h5b
    have hb5 : Below w0.heap.size w0 W5.drew := bl_drew (bl_blk r7 hg (by omega))
    refine ⟨_, ?_, rfl, ?_⟩
    · obtain ⟨u0, _⟩ := h6.cell 0 _ rfl; obtain ⟨u1, _⟩ := h6.cell 1 _ rfl; obtain ⟨u2, _⟩ := h6.cell 2 _ rfl; obtain ⟨u3, _⟩ := h6.cell 3 _ rfl; obtain ⟨u4, _⟩ := h6.cell 4 _ rfl
      rw [EB.out, ← EQ.out]
      simp [results, Tryd.f54, go_sem, u0, u1, u2, u3, u4, aggI, ints]
    · exact hb5.trans (putObj_below _ _ _ (by omega) (Array.getElem?_eq_some_iff.1 hK5).1)
end Go.Proofs.YtjchjjnmahddiaaDoor

/-! BestHigh, BestFive, CompareHigh: what they answer, and the program's walks. -/
namespace Go.Proofs.YtjchjjnmahddiaaDoor
open Go.RowKit
set_option linter.unusedVariables false

/-- The best five, and their value. -/
def bfS (xs : List Int) : List Int := bestF xs (ch 5 xs).length
def bvS (xs : List Int) : Int := bestV xs (ch 5 xs).length
def bhR (xs : List Int) : Int := if sizedB xs 5 8 = true then bvS xs else 0
def bfR (xs : List Int) : List Int := if sizedB xs 5 8 = true then bfS xs else []
def bothB (xs ys : List Int) : Bool := sizedB xs 5 8 && sizedB ys 5 8
def cmpR (xs ys : List Int) : Int := if bothB xs ys = true then cmpI (bvS xs) (bvS ys) else 0
def cmpC (xs ys : List Int) : Int := if bothB xs ys = true then 0 else 1
theorem bhR_yes {xs : List Int} (h : sizedB xs 5 8 = true) : bhR xs = bvS xs := by unfold bhR; rw [if_pos h]
theorem bhR_no {xs : List Int} (h : sizedB xs 5 8 = false) : bhR xs = 0 := by unfold bhR; rw [h]; rfl
theorem bfR_yes {xs : List Int} (h : sizedB xs 5 8 = true) : bfR xs = bfS xs := by unfold bfR; rw [if_pos h]
theorem bfR_no {xs : List Int} (h : sizedB xs 5 8 = false) : bfR xs = [] := by unfold bfR; rw [h]; rfl
theorem cmpR_yes {xs ys : List Int} (h : sizedB xs 5 8 = true) (h2 : sizedB ys 5 8 = true) : cmpR xs ys = cmpI (bvS xs) (bvS ys) := by unfold cmpR bothB; rw [h, h2]; rfl
theorem cmpR_no {xs ys : List Int} (h : sizedB xs 5 8 = false) : cmpR xs ys = 0 := by unfold cmpR bothB; rw [h]; rfl
theorem cmpR_no2 {xs ys : List Int} (h : sizedB ys 5 8 = false) : cmpR xs ys = 0 := by unfold cmpR bothB; rw [h, Bool.and_false]; rfl
theorem cmpC_yes {xs ys : List Int} (h : sizedB xs 5 8 = true) (h2 : sizedB ys 5 8 = true) : cmpC xs ys = 0 := by unfold cmpC bothB; rw [h, h2]; rfl
theorem cmpC_no {xs ys : List Int} (h : sizedB xs 5 8 = false) : cmpC xs ys = 1 := by unfold cmpC bothB; rw [h]; rfl
theorem cmpC_no2 {xs ys : List Int} (h : sizedB ys 5 8 = false) : cmpC xs ys = 1 := by unfold cmpC bothB; rw [h, Bool.and_false]; rfl
theorem sized8 {xs : List Int} (h : sizedB xs 5 8 = true) : 5 ≤ xs.length ∧ xs.length ≤ 8 ∧ cardsB xs = true := by
  obtain ⟨a, b, c⟩ := sized_iff.1 h
  exact ⟨by omega, by omega, c⟩
theorem bvS_bd {xs : List Int} (h : cardsB xs = true) : -1 ≤ bvS xs ∧ bvS xs < 3341637 := bestV_pos xs h _ (Nat.le_refl _)
theorem bfS_five {xs : List Int} (h : cardsB xs = true) : ∃ b0 b1 b2 b3 b4, bfS xs = [b0, b1, b2, b3, b4] := list_five _ (bestF_len xs h _ (Nat.le_refl _))
theorem bestHigh_lit (A : Option Addr) (c : Nat) (xs : List Int) (B : Nat) (wt w : World) (ht : Hid (Low B wt)) (hB : Hid (Below B wt w)) (hBw : Hid (B ≤ w.heap.size)) (hr : Rd w A xs) (h : sizedB xs 5 8 = true) (b0 b1 b2 b3 b4 : Int) (hb : bfS xs = [b0, b1, b2, b3, b4]) :
    Calls Tryd.prog 54 #[.slice A xs.length c] w (Fresh (.tuple #[.agg #[.int .i64 b0, .int .i64 b1, .int .i64 b2, .int .i64 b3, .int .i64 b4], .int .i64 (bvS xs)]) w) :=
  (bestHigh_any A c xs B wt w ht hB hBw hr (sized8 h).1 (sized8 h).2.1 (sized8 h).2.2).mono fun e w' ⟨he, hb'⟩ => ⟨by
    have e1 : bestF xs (ch 5 xs).length = [b0, b1, b2, b3, b4] := hb
    rw [he, e1]; rfl, hb'⟩
set_option maxRecDepth 100000 in
set_option maxHeartbeats 2000000 in
theorem implBestHigh_any (A : Option Addr) (c : Nat) (xs : List Int) (B : Nat) (wt w : World) (ht : Hid (Low B wt)) (hB : Hid (Below B wt w)) (hBw : Hid (B ≤ w.heap.size)) (hr : Rd w A xs) (hn : xs.length ≤ 4000000) :
    Calls Tryd.prog 28 #[.slice A xs.length c] w (Fresh (pairV (bhR xs) (codeZ xs 5 8)) w) := by
  have K := Lib.hid (fun (c : Nat) => implSized_any A c xs 5 8 w hr hn)
  rcases hd : sizedB xs 5 8 with _ | _
  · rw [bhR_no hd, codeZ_no hd]
    rw [hd] at K
    clear hd hr
    go_enter Tryd.func28, Tryd.ntmps28
    go_wp2_with (go_at_call 53; refine (K.out _).mono ?_; rintro e w1 ⟨rfl, rfl⟩)
    go_ret2
    exact ⟨rfl, bl_refl _⟩
  · rw [bhR_yes hd, codeZ_yes hd]
    rw [hd] at K
    obtain ⟨h5, h8, hb⟩ := sized8 hd
    obtain ⟨b0, b1, b2, b3, b4, eb⟩ := bfS_five hb
    have K2 := Lib.hid (bestHigh_lit A c xs B wt w ht hB hBw hr hd b0 b1 b2 b3 b4 eb)
    have EB := Lib.hid eb
    generalize bvS xs = v at *
    clear hd hr hb hn h5 h8 ht hB hBw eb
    go_enter Tryd.func28, Tryd.ntmps28
    go_wp2_with (first
      | (go_at_call 53; refine (K.out _).mono ?_; rintro e w1 ⟨rfl, rfl⟩)
      | (go_at_call 54; refine K2.out.mono ?_; rintro e w1 ⟨rfl, hb⟩; have HB := Lib.hid hb; clear hb))
    go_ret2
    exact ⟨rfl, bl_alloc HB.out _⟩
/-- The program's copy of five cards as a slice. -/
def ListNewC (k0 k1 k2 k3 k4 : Int) (w : World) (e : Ending) (w' : World) : Prop := e = .returned (.slice (some ⟨w.heap.size, 0, none⟩) 5 5) ∧ w' = w.alloc (.cells #[.int .i64 k0, .int .i64 k1, .int .i64 k2, .int .i64 k3, .int .i64 k4] 84)
set_option maxRecDepth 100000 in
set_option maxHeartbeats 400000 in
theorem cardsList_any (k0 k1 k2 k3 k4 : Int) (w : World) :
    Calls Tryd.prog 55 #[.agg #[.int .i64 k0, .int .i64 k1, .int .i64 k2, .int .i64 k3, .int .i64 k4]] w (ListNewC k0 k1 k2 k3 k4 w) := by
  go_enter Tryd.func55, Tryd.ntmps55
  go_wp2_with fail
  go_ret
  exact ⟨rfl, rfl⟩
set_option maxRecDepth 100000 in
set_option maxHeartbeats 2000000 in
theorem implBestFive_any (A : Option Addr) (c : Nat) (xs : List Int) (B : Nat) (wt w : World) (ht : Hid (Low B wt)) (hB : Hid (Below B wt w)) (hBw : Hid (B ≤ w.heap.size)) (hr : Rd w A xs) (hn : xs.length ≤ 4000000) :
    Calls Tryd.prog 24 #[.slice A xs.length c] w (NewRC (bfR xs) (codeZ xs 5 8) w) := by
  have K := Lib.hid (fun (c : Nat) => implSized_any A c xs 5 8 w hr hn)
  rcases hd : sizedB xs 5 8 with _ | _
  · rw [bfR_no hd, codeZ_no hd]
    rw [hd] at K
    clear hd hr
    go_enter Tryd.func24, Tryd.ntmps24
    go_wp2_with (go_at_call 53; refine (K.out _).mono ?_; rintro e w1 ⟨rfl, rfl⟩)
    go_ret2
    exact ⟨none, 0, rfl, Row.nil _ _, bl_refl _⟩
  · rw [bfR_yes hd, codeZ_yes hd]
    rw [hd] at K
    obtain ⟨h5, h8, hb⟩ := sized8 hd
    obtain ⟨b0, b1, b2, b3, b4, eb⟩ := bfS_five hb
    have K2 := Lib.hid (bestHigh_lit A c xs B wt w ht hB hBw hr hd b0 b1 b2 b3 b4 eb)
    have EB := Lib.hid eb
    generalize bvS xs = v at *
    clear hd hr hb hn h5 h8 ht hB hBw eb
    go_enter Tryd.func24, Tryd.ntmps24
    go_wp2_with (first
      | (go_at_call 53; refine (K.out _).mono ?_; rintro e w1 ⟨rfl, rfl⟩)
      | (go_at_call 54; refine K2.out.mono ?_; rintro e w1 ⟨rfl, hb⟩; have HB := Lib.hid hb; clear hb)
      | (go_at_call 55; refine (cardsList_any _ _ _ _ _ _).mono ?_; rintro e w2 ⟨rfl, rfl⟩))
    go_ret2
    rw [EB.out]
    have N5 := blk_new (w1.alloc (.cells #[.int .i64 b0, .int .i64 b1, .int .i64 b2, .int .i64 b3, .int .i64 b4] 84)) 84 (ints [b0, b1, b2, b3, b4])
    rw [World.size_alloc] at N5
    exact ⟨some ⟨w1.heap.size + 1, 0, none⟩, 5, rfl, row_blk N5 (Nat.le_succ_of_le HB.out.size), bl_alloc (bl_alloc HB.out _) _⟩
set_option maxRecDepth 100000 in
set_option maxHeartbeats 4000000 in
theorem implCompareHigh_any (A : Option Addr) (c : Nat) (xs : List Int) (A2 : Option Addr) (c2 : Nat) (ys : List Int) (B : Nat) (wt w : World) (ht : Hid (Low B wt)) (hB : Hid (Below B wt w)) (hBw : Hid (B ≤ w.heap.size)) (hr : Rd w A xs) (hn : xs.length ≤ 4000000) (hr2 : Rd w A2 ys) (hn2 : ys.length ≤ 4000000) :
    Calls Tryd.prog 31 #[.slice A xs.length c, .slice A2 ys.length c2] w (Fresh (pairV (cmpR xs ys) (cmpC xs ys)) w) := by
  have K := Lib.hid (fun (c : Nat) => implSized_any A c xs 5 8 w hr hn)
  have L := Lib.hid (fun (c : Nat) => implSized_any A2 c ys 5 8 w hr2 hn2)
  rcases hd : sizedB xs 5 8 with _ | _
  · rw [cmpR_no hd, cmpC_no hd]
    rw [hd] at K
    clear hd hr hr2
    go_enter Tryd.func31, Tryd.ntmps31
    go_wp2_with (go_at_call 53; refine (K.out _).mono ?_; rintro e w1 ⟨rfl, rfl⟩)
    go_ret2
    exact ⟨rfl, bl_refl _⟩
  rcases hd2 : sizedB ys 5 8 with _ | _
  · rw [cmpR_no2 hd2, cmpC_no2 hd2]
    rw [hd] at K
    rw [hd2] at L
    clear hd hd2 hr hr2
    have hf : True := trivial
    go_enter Tryd.func31, Tryd.ntmps31
    go_wp2_with (first
      | (go_at_call 53; refine (K.out _).mono ?_; rintro e w1 ⟨rfl, rfl⟩; clear K)
      | (go_at_call 53; refine (L.out _).mono ?_; rintro e w1 ⟨rfl, rfl⟩))
    go_ret2
    exact ⟨rfl, bl_refl _⟩
  · rw [cmpR_yes hd hd2, cmpC_yes hd hd2]
    rw [hd] at K
    rw [hd2] at L
    obtain ⟨b0, b1, b2, b3, b4, eb⟩ := bfS_five (sized8 hd).2.2
    obtain ⟨d0, d1, d2, d3, d4, ed⟩ := bfS_five (sized8 hd2).2.2
    have K2 := Lib.hid (bestHigh_lit A c xs B wt w ht hB hBw hr hd b0 b1 b2 b3 b4 eb)
    have L2 := Lib.hid (fun (W : World) (hw : Below w.heap.size w W) => bestHigh_lit A2 c2 ys B wt W ht (Lib.hid (hB.out.trans (hw.mono hBw.out))) (Lib.hid (Nat.le_trans hBw.out hw.size)) (hr2.below hw) hd2 d0 d1 d2 d3 d4 ed)
    have KC := Lib.hid compare_any
    generalize bvS xs = v at *
    generalize bvS ys = v2 at *
    clear hd hd2 hr hr2 hn hn2 ht hB hBw eb ed
    go_enter Tryd.func31, Tryd.ntmps31
    go_wp2_with (first
      | (go_at_call 53; refine (K.out _).mono ?_; rintro e w1 ⟨rfl, rfl⟩; clear K)
      | (go_at_call 53; refine (L.out _).mono ?_; rintro e w1 ⟨rfl, rfl⟩)
      | (go_at_call 54; refine K2.out.mono ?_; rintro e w1 ⟨rfl, hb⟩; have HB := Lib.hid hb; clear hb K2)
      | (go_at_call 54; refine (L2.out _ (bl_alloc HB.out _)).mono ?_; rintro e w2 ⟨rfl, hb⟩; have HB2 := Lib.hid (bl_trans (bl_alloc HB.out _) hb); clear hb)
      | (go_at_call 58; refine (KC.out v v2 _).mono ?_; rintro e w3 ⟨rfl, rfl⟩))
    go_ret2
    exact ⟨rfl, bl_alloc HB2.out _⟩
end Go.Proofs.YtjchjjnmahddiaaDoor
