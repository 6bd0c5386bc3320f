/-
  The laws' own helpers on rounds, choices and actions; a round among a law's arguments.
-/
import Derived.Test.YthgfohdjpfhebaaBetA
import Derived.Test.YthgfohdjpfhebaaStoreB
import Derived.Test.YthgfohdjpfhebaaTabHelp
import Derived.BigQuiet
namespace Go.Proofs.Ythgfohdjpfhebaa
open Go.Joins Go.ChangeShapes Go.WideShapes Go.ChangeAt Go.RowKit Go.Deep
set_option linter.unusedVariables false

theorem ownB_block {w : World} {lo g : Nat} {A : Option Addr} {n c : Nat} {xs : List Bool} (h : OwnB w lo (.slice A n c) xs) (hg : g < lo) : (Value.slice A n c).ownBlock = none ∨ (Value.slice A n c).ownBlock ≠ some g := by
  rcases A with _ | a
  · exact .inl rfl
  · right
    intro e
    have k1 := World.ownsRow.lt h a.block rfl
    have : a.block = g := by injection e
    omega
theorem hoB_grown {w w' : World} {lo g : Nat} {A : Option Addr} {n c : Nat} {xs : List Bool} (h : Hid (OwnB w lo (.slice A n c) xs)) (hg : w.grownBy w' (some g)) (hl : g < lo) : Hid (OwnB w' lo (.slice A n c) xs) := Lib.hid (h.out.grown hg (ownB_block h.out hl))
/-- Two lists lie in different blocks. -/
def Apt (A B : Option Addr) : Prop := ∀ a b, A = some a → B = some b → a.block ≠ b.block
/-- A round whose lists are rows of the call's own, apart. -/
structure Row5 (w : World) (lo : Nat) (L : At5) (b : Bt) : Prop where
  r1 : Row w lo L.a1 b.st
  r2 : Row w lo L.a2 b.bt
  r3 : Row w lo L.a3 b.pd
  r4 : RowB w lo L.a4 b.fo
  r5 : RowB w lo L.a5 b.ac
  p12 : Apt L.a1 L.a2
  p13 : Apt L.a1 L.a3
  p14 : Apt L.a1 L.a4
  p15 : Apt L.a1 L.a5
  p23 : Apt L.a2 L.a3
  p24 : Apt L.a2 L.a4
  p25 : Apt L.a2 L.a5
  p34 : Apt L.a3 L.a4
  p35 : Apt L.a3 L.a5
  p45 : Apt L.a4 L.a5
theorem Row5.rd {w : World} {lo : Nat} {L : At5} {b : Bt} (h : Row5 w lo L b) : Rd5 w L b := ⟨h.r1.rd, h.r2.rd, h.r3.rd, h.r4.rd, h.r5.rd⟩
theorem Row5.below {w w' : World} {lo : Nat} {L : At5} {b : Bt} (h : Row5 w lo L b) (hb : Below w.heap.size w w') : Row5 w' lo L b := ⟨h.r1.below hb, h.r2.below hb, h.r3.below hb, h.r4.below hb, h.r5.below hb, h.p12, h.p13, h.p14, h.p15, h.p23, h.p24, h.p25, h.p34, h.p35, h.p45⟩
theorem Row5.less {w : World} {lo lo' : Nat} {L : At5} {b : Bt} (h : Row5 w lo L b) (hl : lo' ≤ lo) : Row5 w lo' L b := ⟨h.r1.less hl, h.r2.less hl, h.r3.less hl, h.r4.less hl, h.r5.less hl, h.p12, h.p13, h.p14, h.p15, h.p23, h.p24, h.p25, h.p34, h.p35, h.p45⟩
/-- What a call leaves that returns a new round. -/
def NewBt (b : Bt) (w : World) (e : Ending) (w' : World) : Prop := ∃ L, e = .returned (bV L b) ∧ Row5 w' w.heap.size L b ∧ Below w.heap.size w w'
theorem apt_lt {A B : Option Addr} {n : Nat} (h1 : ∀ a, A = some a → a.block < n) (h2 : ∀ b, B = some b → n ≤ b.block) : Apt A B := fun a b ea eb => by have := h1 a ea; have := h2 b eb; omega
/-- The lists of a round are not too long. -/
structure Sm (b : Bt) : Prop where
  m1 : b.st.length ≤ 1048576
  m2 : b.bt.length ≤ 1048576
  m3 : b.pd.length ≤ 1048576
  m4 : b.fo.length ≤ 1048576
  m5 : b.ac.length ≤ 1048576
set_option maxRecDepth 100000 in
set_option maxHeartbeats 4000000 in
theorem szBetting_yes (L : At5) (b : Bt) (q0 : Int) (w : World) (h0 : 0 ≤ q0) (h1 : q0 ≤ 2000000) (hs : 0 ≤ q0 - (b.st.length : Int) - (b.bt.length : Int) - (b.pd.length : Int) - (b.fo.length : Int) - (b.ac.length : Int)) :
    Calls Try.prog 55 #[bV L b, .int .i64 q0] w (Fresh (.int .i64 (q0 - (b.st.length : Int) - (b.bt.length : Int) - (b.pd.length : Int) - (b.fo.length : Int) - (b.ac.length : Int))) w) := by
  have K0 := Lib.hid (fun W => szInts_any L.a1 b.st.length L.c1 (q0) W (by omega) (by omega) (by omega))
  have K1 := Lib.hid (fun W => szInts_any L.a2 b.bt.length L.c2 (q0 - (b.st.length : Int)) W (by omega) (by omega) (by omega))
  have K2 := Lib.hid (fun W => szInts_any L.a3 b.pd.length L.c3 (q0 - (b.st.length : Int) - (b.bt.length : Int)) W (by omega) (by omega) (by omega))
  have K3 := Lib.hid (fun W => szBools_any L.a4 b.fo.length L.c4 (q0 - (b.st.length : Int) - (b.bt.length : Int) - (b.pd.length : Int)) W (by omega) (by omega) (by omega))
  have K4 := Lib.hid (fun W => szBools_any L.a5 b.ac.length L.c5 (q0 - (b.st.length : Int) - (b.bt.length : Int) - (b.pd.length : Int) - (b.fo.length : Int)) W (by omega) (by omega) (by omega))
  rw [if_neg (by omega)] at K0
  rw [if_neg (by omega)] at K1
  rw [if_neg (by omega)] at K2
  rw [if_neg (by omega)] at K3
  rw [if_neg (by omega)] at K4
  have N0 := Lib.hid (blk_new w 62 (btL L b))
  have B := Lib.hid (bl_alloc (bl_refl w) (.cells (btL L b).toArray 62))
  have N1 := N0.out
  obtain ⟨z0, _⟩ := N1.cell 0 _ rfl
  obtain ⟨z1, _⟩ := N1.cell 1 _ rfl
  obtain ⟨z2, _⟩ := N1.cell 2 _ rfl
  obtain ⟨z3, _⟩ := N1.cell 3 _ rfl
  obtain ⟨z4, _⟩ := N1.cell 4 _ rfl
  clear N1
  unfold bV
  have d1 : decide (q0 - (b.st.length : Int) < 0) = false := decide_eq_false (by omega)
  have d2 : decide (q0 - (b.st.length : Int) - (b.bt.length : Int) < 0) = false := decide_eq_false (by omega)
  have d3 : decide (q0 - (b.st.length : Int) - (b.bt.length : Int) - (b.pd.length : Int) < 0) = false := decide_eq_false (by omega)
  have d4 : decide (q0 - (b.st.length : Int) - (b.bt.length : Int) - (b.pd.length : Int) - (b.fo.length : Int) < 0) = false := decide_eq_false (by omega)
  have d5 : decide (q0 - (b.st.length : Int) - (b.bt.length : Int) - (b.pd.length : Int) - (b.fo.length : Int) - (b.ac.length : Int) < 0) = false := decide_eq_false (by omega)
  obtain ⟨r1, er1⟩ : ∃ r : Int, r = q0 - (b.st.length : Int) := ⟨_, rfl⟩
  obtain ⟨r2, er2⟩ : ∃ r : Int, r = r1 - (b.bt.length : Int) := ⟨_, rfl⟩
  obtain ⟨r3, er3⟩ : ∃ r : Int, r = r2 - (b.pd.length : Int) := ⟨_, rfl⟩
  obtain ⟨r4, er4⟩ : ∃ r : Int, r = r3 - (b.fo.length : Int) := ⟨_, rfl⟩
  obtain ⟨r5, er5⟩ : ∃ r : Int, r = r4 - (b.ac.length : Int) := ⟨_, rfl⟩
  simp only [← er1, ← er2, ← er3, ← er4, ← er5] at K0 K1 K2 K3 K4 d1 d2 d3 d4 d5 ⊢
  clear er1 er2 er3 er4 er5 hs
  go_enter Try.func55, Try.ntmps55
  go_wp2_with (first
    | (go_at_call 123; (with_reducible refine (K0.out _).mono ?_); rintro e wn ⟨rfl, rfl⟩)
    | (go_at_call 123; (with_reducible refine (K1.out _).mono ?_); rintro e wn ⟨rfl, rfl⟩)
    | (go_at_call 123; (with_reducible refine (K2.out _).mono ?_); rintro e wn ⟨rfl, rfl⟩)
    | (go_at_call 124; (with_reducible refine (K3.out _).mono ?_); rintro e wn ⟨rfl, rfl⟩)
    | (go_at_call 124; (with_reducible refine (K4.out _).mono ?_); rintro e wn ⟨rfl, rfl⟩))
  go_ret
  exact ⟨rfl, B.out⟩
set_option maxRecDepth 100000 in
set_option maxHeartbeats 8000000 in
theorem szBetting_no (L : At5) (b : Bt) (q0 : Int) (w : World) (h0 : 0 ≤ q0) (h1 : q0 ≤ 2000000) (hm : b.st.length ≤ maxLen ∧ b.bt.length ≤ maxLen ∧ b.pd.length ≤ maxLen ∧ b.fo.length ≤ maxLen ∧ b.ac.length ≤ maxLen) (hs : q0 - (b.st.length : Int) - (b.bt.length : Int) - (b.pd.length : Int) - (b.fo.length : Int) - (b.ac.length : Int) < 0) :
    Calls Try.prog 55 #[bV L b, .int .i64 q0] w (Fresh (.int .i64 (-1)) w) := by
  unfold maxLen at hm
  have N0 := Lib.hid (blk_new w 62 (btL L b))
  have B := Lib.hid (bl_alloc (bl_refl w) (.cells (btL L b).toArray 62))
  have N1 := N0.out
  obtain ⟨z0, _⟩ := N1.cell 0 _ rfl
  obtain ⟨z1, _⟩ := N1.cell 1 _ rfl
  obtain ⟨z2, _⟩ := N1.cell 2 _ rfl
  obtain ⟨z3, _⟩ := N1.cell 3 _ rfl
  obtain ⟨z4, _⟩ := N1.cell 4 _ rfl
  clear N1
  unfold bV
  by_cases c0 : q0 - (b.st.length : Int) < 0
  · have K0 := Lib.hid (fun W => szInts_any L.a1 b.st.length L.c1 (q0) W (by omega) (by omega) (by omega))
    rw [if_pos (by omega)] at K0
    clear c0 hs hm
    go_enter Try.func55, Try.ntmps55
    go_wp2_with (first
        | (go_at_call 123; (with_reducible refine (K0.out _).mono ?_); rintro e wn ⟨rfl, rfl⟩))
    go_ret
    exact ⟨rfl, B.out⟩
  by_cases c1 : q0 - (b.st.length : Int) - (b.bt.length : Int) < 0
  · have K0 := Lib.hid (fun W => szInts_any L.a1 b.st.length L.c1 (q0) W (by omega) (by omega) (by omega))
    rw [if_neg (by omega)] at K0
    have K1 := Lib.hid (fun W => szInts_any L.a2 b.bt.length L.c2 (q0 - (b.st.length : Int)) W (by omega) (by omega) (by omega))
    rw [if_pos (by omega)] at K1
    have d1 : decide (q0 - (b.st.length : Int) < 0) = false := decide_eq_false (by omega)
    obtain ⟨r1, er1⟩ : ∃ r : Int, r = q0 - (b.st.length : Int) := ⟨_, rfl⟩
    simp only [← er1] at K0 K1 d1
    clear er1 c0 c1 hs hm
    go_enter Try.func55, Try.ntmps55
    go_wp2_with (first
        | (go_at_call 123; (with_reducible refine (K0.out _).mono ?_); rintro e wn ⟨rfl, rfl⟩)
        | (go_at_call 123; (with_reducible refine (K1.out _).mono ?_); rintro e wn ⟨rfl, rfl⟩))
    go_ret
    exact ⟨rfl, B.out⟩
  by_cases c2 : q0 - (b.st.length : Int) - (b.bt.length : Int) - (b.pd.length : Int) < 0
  · have K0 := Lib.hid (fun W => szInts_any L.a1 b.st.length L.c1 (q0) W (by omega) (by omega) (by omega))
    rw [if_neg (by omega)] at K0
    have K1 := Lib.hid (fun W => szInts_any L.a2 b.bt.length L.c2 (q0 - (b.st.length : Int)) W (by omega) (by omega) (by omega))
    rw [if_neg (by omega)] at K1
    have K2 := Lib.hid (fun W => szInts_any L.a3 b.pd.length L.c3 (q0 - (b.st.length : Int) - (b.bt.length : Int)) W (by omega) (by omega) (by omega))
    rw [if_pos (by omega)] at K2
    have d1 : decide (q0 - (b.st.length : Int) < 0) = false := decide_eq_false (by omega)
    have d2 : decide (q0 - (b.st.length : Int) - (b.bt.length : Int) < 0) = false := decide_eq_false (by omega)
    obtain ⟨r1, er1⟩ : ∃ r : Int, r = q0 - (b.st.length : Int) := ⟨_, rfl⟩
    obtain ⟨r2, er2⟩ : ∃ r : Int, r = r1 - (b.bt.length : Int) := ⟨_, rfl⟩
    simp only [← er1, ← er2] at K0 K1 K2 d1 d2
    clear er1 er2 c0 c1 c2 hs hm
    go_enter Try.func55, Try.ntmps55
    go_wp2_with (first
        | (go_at_call 123; (with_reducible refine (K0.out _).mono ?_); rintro e wn ⟨rfl, rfl⟩)
        | (go_at_call 123; (with_reducible refine (K1.out _).mono ?_); rintro e wn ⟨rfl, rfl⟩)
        | (go_at_call 123; (with_reducible refine (K2.out _).mono ?_); rintro e wn ⟨rfl, rfl⟩))
    go_ret
    exact ⟨rfl, B.out⟩
  by_cases c3 : q0 - (b.st.length : Int) - (b.bt.length : Int) - (b.pd.length : Int) - (b.fo.length : Int) < 0
  · have K0 := Lib.hid (fun W => szInts_any L.a1 b.st.length L.c1 (q0) W (by omega) (by omega) (by omega))
    rw [if_neg (by omega)] at K0
    have K1 := Lib.hid (fun W => szInts_any L.a2 b.bt.length L.c2 (q0 - (b.st.length : Int)) W (by omega) (by omega) (by omega))
    rw [if_neg (by omega)] at K1
    have K2 := Lib.hid (fun W => szInts_any L.a3 b.pd.length L.c3 (q0 - (b.st.length : Int) - (b.bt.length : Int)) W (by omega) (by omega) (by omega))
    rw [if_neg (by omega)] at K2
    have K3 := Lib.hid (fun W => szBools_any L.a4 b.fo.length L.c4 (q0 - (b.st.length : Int) - (b.bt.length : Int) - (b.pd.length : Int)) W (by omega) (by omega) (by omega))
    rw [if_pos (by omega)] at K3
    have d1 : decide (q0 - (b.st.length : Int) < 0) = false := decide_eq_false (by omega)
    have d2 : decide (q0 - (b.st.length : Int) - (b.bt.length : Int) < 0) = false := decide_eq_false (by omega)
    have d3 : decide (q0 - (b.st.length : Int) - (b.bt.length : Int) - (b.pd.length : Int) < 0) = false := decide_eq_false (by omega)
    obtain ⟨r1, er1⟩ : ∃ r : Int, r = q0 - (b.st.length : Int) := ⟨_, rfl⟩
    obtain ⟨r2, er2⟩ : ∃ r : Int, r = r1 - (b.bt.length : Int) := ⟨_, rfl⟩
    obtain ⟨r3, er3⟩ : ∃ r : Int, r = r2 - (b.pd.length : Int) := ⟨_, rfl⟩
    simp only [← er1, ← er2, ← er3] at K0 K1 K2 K3 d1 d2 d3
    clear er1 er2 er3 c0 c1 c2 c3 hs hm
    go_enter Try.func55, Try.ntmps55
    go_wp2_with (first
        | (go_at_call 123; (with_reducible refine (K0.out _).mono ?_); rintro e wn ⟨rfl, rfl⟩)
        | (go_at_call 123; (with_reducible refine (K1.out _).mono ?_); rintro e wn ⟨rfl, rfl⟩)
        | (go_at_call 123; (with_reducible refine (K2.out _).mono ?_); rintro e wn ⟨rfl, rfl⟩)
        | (go_at_call 124; (with_reducible refine (K3.out _).mono ?_); rintro e wn ⟨rfl, rfl⟩))
    go_ret
    exact ⟨rfl, B.out⟩
  by_cases c4 : q0 - (b.st.length : Int) - (b.bt.length : Int) - (b.pd.length : Int) - (b.fo.length : Int) - (b.ac.length : Int) < 0
  · have K0 := Lib.hid (fun W => szInts_any L.a1 b.st.length L.c1 (q0) W (by omega) (by omega) (by omega))
    rw [if_neg (by omega)] at K0
    have K1 := Lib.hid (fun W => szInts_any L.a2 b.bt.length L.c2 (q0 - (b.st.length : Int)) W (by omega) (by omega) (by omega))
    rw [if_neg (by omega)] at K1
    have K2 := Lib.hid (fun W => szInts_any L.a3 b.pd.length L.c3 (q0 - (b.st.length : Int) - (b.bt.length : Int)) W (by omega) (by omega) (by omega))
    rw [if_neg (by omega)] at K2
    have K3 := Lib.hid (fun W => szBools_any L.a4 b.fo.length L.c4 (q0 - (b.st.length : Int) - (b.bt.length : Int) - (b.pd.length : Int)) W (by omega) (by omega) (by omega))
    rw [if_neg (by omega)] at K3
    have K4 := Lib.hid (fun W => szBools_any L.a5 b.ac.length L.c5 (q0 - (b.st.length : Int) - (b.bt.length : Int) - (b.pd.length : Int) - (b.fo.length : Int)) W (by omega) (by omega) (by omega))
    rw [if_pos (by omega)] at K4
    have d1 : decide (q0 - (b.st.length : Int) < 0) = false := decide_eq_false (by omega)
    have d2 : decide (q0 - (b.st.length : Int) - (b.bt.length : Int) < 0) = false := decide_eq_false (by omega)
    have d3 : decide (q0 - (b.st.length : Int) - (b.bt.length : Int) - (b.pd.length : Int) < 0) = false := decide_eq_false (by omega)
    have d4 : decide (q0 - (b.st.length : Int) - (b.bt.length : Int) - (b.pd.length : Int) - (b.fo.length : Int) < 0) = false := decide_eq_false (by omega)
    obtain ⟨r1, er1⟩ : ∃ r : Int, r = q0 - (b.st.length : Int) := ⟨_, rfl⟩
    obtain ⟨r2, er2⟩ : ∃ r : Int, r = r1 - (b.bt.length : Int) := ⟨_, rfl⟩
    obtain ⟨r3, er3⟩ : ∃ r : Int, r = r2 - (b.pd.length : Int) := ⟨_, rfl⟩
    obtain ⟨r4, er4⟩ : ∃ r : Int, r = r3 - (b.fo.length : Int) := ⟨_, rfl⟩
    simp only [← er1, ← er2, ← er3, ← er4] at K0 K1 K2 K3 K4 d1 d2 d3 d4
    clear er1 er2 er3 er4 c0 c1 c2 c3 c4 hs hm
    go_enter Try.func55, Try.ntmps55
    go_wp2_with (first
        | (go_at_call 123; (with_reducible refine (K0.out _).mono ?_); rintro e wn ⟨rfl, rfl⟩)
        | (go_at_call 123; (with_reducible refine (K1.out _).mono ?_); rintro e wn ⟨rfl, rfl⟩)
        | (go_at_call 123; (with_reducible refine (K2.out _).mono ?_); rintro e wn ⟨rfl, rfl⟩)
        | (go_at_call 124; (with_reducible refine (K3.out _).mono ?_); rintro e wn ⟨rfl, rfl⟩)
        | (go_at_call 124; (with_reducible refine (K4.out _).mono ?_); rintro e wn ⟨rfl, rfl⟩))
    go_ret
    exact ⟨rfl, B.out⟩
  · exact absurd hs c4
set_option maxRecDepth 100000 in
set_option maxHeartbeats 4000000 in
theorem eqBetting_same (L M : At5) (b : Bt) (w : World) (hr : Rd5 w L b) (hq : Rd5 w M b) (m : Sm b) :
    Calls Try.prog 58 #[bV L b, bV M b] w (Fresh (.bool true) w) := by
  have K0 := Lib.hid (fun (W : World) (h : Below w.heap.size w W) => eqInts_same L.a1 M.a1 L.c1 M.c1 b.st W (hr.r1.below h) (hq.r1.below h) (by have := m.m1; omega))
  have K1 := Lib.hid (fun (W : World) (h : Below w.heap.size w W) => eqInts_same L.a2 M.a2 L.c2 M.c2 b.bt W (hr.r2.below h) (hq.r2.below h) (by have := m.m2; omega))
  have K2 := Lib.hid (fun (W : World) (h : Below w.heap.size w W) => eqInts_same L.a3 M.a3 L.c3 M.c3 b.pd W (hr.r3.below h) (hq.r3.below h) (by have := m.m3; omega))
  have K3 := Lib.hid (fun (W : World) (h : Below w.heap.size w W) => eqBools_same L.a4 M.a4 L.c4 M.c4 b.fo W (hr.r4.below h) (hq.r4.below h) (by have := m.m4; omega))
  have K4 := Lib.hid (fun (W : World) (h : Below w.heap.size w W) => eqBools_same L.a5 M.a5 L.c5 M.c5 b.ac W (hr.r5.below h) (hq.r5.below h) (by have := m.m5; omega))
  have N0 := Lib.hid ((blk_new w 27 (btL L b)).below (bl_alloc (bl_refl _) (.cells (btL M b).toArray 27)))
  have n1 := blk_new (w.alloc (.cells (btL L b).toArray 27)) 27 (btL M b)
  rw [World.size_alloc] at n1
  have N1 := Lib.hid n1
  have B := Lib.hid (bl_alloc (bl_alloc (bl_refl w) (.cells (btL L b).toArray 27)) (.cells (btL M b).toArray 27))
  have m0 := N0.out
  obtain ⟨q0_0, _⟩ := m0.cell 0 _ rfl
  obtain ⟨q0_1, _⟩ := m0.cell 1 _ rfl
  obtain ⟨q0_2, _⟩ := m0.cell 2 _ rfl
  obtain ⟨q0_3, _⟩ := m0.cell 3 _ rfl
  obtain ⟨q0_4, _⟩ := m0.cell 4 _ rfl
  obtain ⟨q0_5, _⟩ := m0.cell 5 _ rfl
  obtain ⟨q0_6, _⟩ := m0.cell 6 _ rfl
  obtain ⟨q0_7, _⟩ := m0.cell 7 _ rfl
  obtain ⟨q0_8, _⟩ := m0.cell 8 _ rfl
  obtain ⟨q1_0, _⟩ := n1.cell 0 _ rfl
  obtain ⟨q1_1, _⟩ := n1.cell 1 _ rfl
  obtain ⟨q1_2, _⟩ := n1.cell 2 _ rfl
  obtain ⟨q1_3, _⟩ := n1.cell 3 _ rfl
  obtain ⟨q1_4, _⟩ := n1.cell 4 _ rfl
  obtain ⟨q1_5, _⟩ := n1.cell 5 _ rfl
  obtain ⟨q1_6, _⟩ := n1.cell 6 _ rfl
  obtain ⟨q1_7, _⟩ := n1.cell 7 _ rfl
  obtain ⟨q1_8, _⟩ := n1.cell 8 _ rfl
  clear n1 m0 hr hq m
  unfold bV
  go_enter Try.func58, Try.ntmps58
  go_wp2_with (first
    | (go_at_call 73; (with_reducible refine (K0.out _ B.out).mono ?_); rintro e wn ⟨rfl, hb⟩; have N0a := Lib.hid (N0.out.below hb); have N1a := Lib.hid (N1.out.below hb); have Ba := Lib.hid (bl_trans B.out hb); clear N0 N1 B hb; have N0 := N0a; have N1 := N1a; have B := Ba; clear N0a N1a Ba; obtain ⟨q0_0, _⟩ := N0.out.cell 0 _ rfl; obtain ⟨q1_0, _⟩ := N1.out.cell 0 _ rfl; obtain ⟨q0_1, _⟩ := N0.out.cell 1 _ rfl; obtain ⟨q1_1, _⟩ := N1.out.cell 1 _ rfl; obtain ⟨q0_2, _⟩ := N0.out.cell 2 _ rfl; obtain ⟨q1_2, _⟩ := N1.out.cell 2 _ rfl; obtain ⟨q0_3, _⟩ := N0.out.cell 3 _ rfl; obtain ⟨q1_3, _⟩ := N1.out.cell 3 _ rfl; obtain ⟨q0_4, _⟩ := N0.out.cell 4 _ rfl; obtain ⟨q1_4, _⟩ := N1.out.cell 4 _ rfl; obtain ⟨q0_5, _⟩ := N0.out.cell 5 _ rfl; obtain ⟨q1_5, _⟩ := N1.out.cell 5 _ rfl; obtain ⟨q0_6, _⟩ := N0.out.cell 6 _ rfl; obtain ⟨q1_6, _⟩ := N1.out.cell 6 _ rfl; obtain ⟨q0_7, _⟩ := N0.out.cell 7 _ rfl; obtain ⟨q1_7, _⟩ := N1.out.cell 7 _ rfl; obtain ⟨q0_8, _⟩ := N0.out.cell 8 _ rfl; obtain ⟨q1_8, _⟩ := N1.out.cell 8 _ rfl)
    | (go_at_call 73; (with_reducible refine (K1.out _ B.out).mono ?_); rintro e wn ⟨rfl, hb⟩; have N0a := Lib.hid (N0.out.below hb); have N1a := Lib.hid (N1.out.below hb); have Ba := Lib.hid (bl_trans B.out hb); clear N0 N1 B hb; have N0 := N0a; have N1 := N1a; have B := Ba; clear N0a N1a Ba; obtain ⟨q0_0, _⟩ := N0.out.cell 0 _ rfl; obtain ⟨q1_0, _⟩ := N1.out.cell 0 _ rfl; obtain ⟨q0_1, _⟩ := N0.out.cell 1 _ rfl; obtain ⟨q1_1, _⟩ := N1.out.cell 1 _ rfl; obtain ⟨q0_2, _⟩ := N0.out.cell 2 _ rfl; obtain ⟨q1_2, _⟩ := N1.out.cell 2 _ rfl; obtain ⟨q0_3, _⟩ := N0.out.cell 3 _ rfl; obtain ⟨q1_3, _⟩ := N1.out.cell 3 _ rfl; obtain ⟨q0_4, _⟩ := N0.out.cell 4 _ rfl; obtain ⟨q1_4, _⟩ := N1.out.cell 4 _ rfl; obtain ⟨q0_5, _⟩ := N0.out.cell 5 _ rfl; obtain ⟨q1_5, _⟩ := N1.out.cell 5 _ rfl; obtain ⟨q0_6, _⟩ := N0.out.cell 6 _ rfl; obtain ⟨q1_6, _⟩ := N1.out.cell 6 _ rfl; obtain ⟨q0_7, _⟩ := N0.out.cell 7 _ rfl; obtain ⟨q1_7, _⟩ := N1.out.cell 7 _ rfl; obtain ⟨q0_8, _⟩ := N0.out.cell 8 _ rfl; obtain ⟨q1_8, _⟩ := N1.out.cell 8 _ rfl)
    | (go_at_call 73; (with_reducible refine (K2.out _ B.out).mono ?_); rintro e wn ⟨rfl, hb⟩; have N0a := Lib.hid (N0.out.below hb); have N1a := Lib.hid (N1.out.below hb); have Ba := Lib.hid (bl_trans B.out hb); clear N0 N1 B hb; have N0 := N0a; have N1 := N1a; have B := Ba; clear N0a N1a Ba; obtain ⟨q0_0, _⟩ := N0.out.cell 0 _ rfl; obtain ⟨q1_0, _⟩ := N1.out.cell 0 _ rfl; obtain ⟨q0_1, _⟩ := N0.out.cell 1 _ rfl; obtain ⟨q1_1, _⟩ := N1.out.cell 1 _ rfl; obtain ⟨q0_2, _⟩ := N0.out.cell 2 _ rfl; obtain ⟨q1_2, _⟩ := N1.out.cell 2 _ rfl; obtain ⟨q0_3, _⟩ := N0.out.cell 3 _ rfl; obtain ⟨q1_3, _⟩ := N1.out.cell 3 _ rfl; obtain ⟨q0_4, _⟩ := N0.out.cell 4 _ rfl; obtain ⟨q1_4, _⟩ := N1.out.cell 4 _ rfl; obtain ⟨q0_5, _⟩ := N0.out.cell 5 _ rfl; obtain ⟨q1_5, _⟩ := N1.out.cell 5 _ rfl; obtain ⟨q0_6, _⟩ := N0.out.cell 6 _ rfl; obtain ⟨q1_6, _⟩ := N1.out.cell 6 _ rfl; obtain ⟨q0_7, _⟩ := N0.out.cell 7 _ rfl; obtain ⟨q1_7, _⟩ := N1.out.cell 7 _ rfl; obtain ⟨q0_8, _⟩ := N0.out.cell 8 _ rfl; obtain ⟨q1_8, _⟩ := N1.out.cell 8 _ rfl)
    | (go_at_call 127; (with_reducible refine (K3.out _ B.out).mono ?_); rintro e wn ⟨rfl, hb⟩; have N0a := Lib.hid (N0.out.below hb); have N1a := Lib.hid (N1.out.below hb); have Ba := Lib.hid (bl_trans B.out hb); clear N0 N1 B hb; have N0 := N0a; have N1 := N1a; have B := Ba; clear N0a N1a Ba; obtain ⟨q0_0, _⟩ := N0.out.cell 0 _ rfl; obtain ⟨q1_0, _⟩ := N1.out.cell 0 _ rfl; obtain ⟨q0_1, _⟩ := N0.out.cell 1 _ rfl; obtain ⟨q1_1, _⟩ := N1.out.cell 1 _ rfl; obtain ⟨q0_2, _⟩ := N0.out.cell 2 _ rfl; obtain ⟨q1_2, _⟩ := N1.out.cell 2 _ rfl; obtain ⟨q0_3, _⟩ := N0.out.cell 3 _ rfl; obtain ⟨q1_3, _⟩ := N1.out.cell 3 _ rfl; obtain ⟨q0_4, _⟩ := N0.out.cell 4 _ rfl; obtain ⟨q1_4, _⟩ := N1.out.cell 4 _ rfl; obtain ⟨q0_5, _⟩ := N0.out.cell 5 _ rfl; obtain ⟨q1_5, _⟩ := N1.out.cell 5 _ rfl; obtain ⟨q0_6, _⟩ := N0.out.cell 6 _ rfl; obtain ⟨q1_6, _⟩ := N1.out.cell 6 _ rfl; obtain ⟨q0_7, _⟩ := N0.out.cell 7 _ rfl; obtain ⟨q1_7, _⟩ := N1.out.cell 7 _ rfl; obtain ⟨q0_8, _⟩ := N0.out.cell 8 _ rfl; obtain ⟨q1_8, _⟩ := N1.out.cell 8 _ rfl)
    | (go_at_call 127; (with_reducible refine (K4.out _ B.out).mono ?_); rintro e wn ⟨rfl, hb⟩; have N0a := Lib.hid (N0.out.below hb); have N1a := Lib.hid (N1.out.below hb); have Ba := Lib.hid (bl_trans B.out hb); clear N0 N1 B hb; have N0 := N0a; have N1 := N1a; have B := Ba; clear N0a N1a Ba; obtain ⟨q0_0, _⟩ := N0.out.cell 0 _ rfl; obtain ⟨q1_0, _⟩ := N1.out.cell 0 _ rfl; obtain ⟨q0_1, _⟩ := N0.out.cell 1 _ rfl; obtain ⟨q1_1, _⟩ := N1.out.cell 1 _ rfl; obtain ⟨q0_2, _⟩ := N0.out.cell 2 _ rfl; obtain ⟨q1_2, _⟩ := N1.out.cell 2 _ rfl; obtain ⟨q0_3, _⟩ := N0.out.cell 3 _ rfl; obtain ⟨q1_3, _⟩ := N1.out.cell 3 _ rfl; obtain ⟨q0_4, _⟩ := N0.out.cell 4 _ rfl; obtain ⟨q1_4, _⟩ := N1.out.cell 4 _ rfl; obtain ⟨q0_5, _⟩ := N0.out.cell 5 _ rfl; obtain ⟨q1_5, _⟩ := N1.out.cell 5 _ rfl; obtain ⟨q0_6, _⟩ := N0.out.cell 6 _ rfl; obtain ⟨q1_6, _⟩ := N1.out.cell 6 _ rfl; obtain ⟨q0_7, _⟩ := N0.out.cell 7 _ rfl; obtain ⟨q1_7, _⟩ := N1.out.cell 7 _ rfl; obtain ⟨q0_8, _⟩ := N0.out.cell 8 _ rfl; obtain ⟨q1_8, _⟩ := N1.out.cell 8 _ rfl))
  exact bodyPost_ret (v := .bool true) (by simp [results, Try.results58, go_sem]) rfl ⟨rfl, B.out⟩
end Go.Proofs.Ythgfohdjpfhebaa
