/-
  The laws' own helpers on rounds: markBetting, heldBetting.
-/
import Derived.Test.YthgfohdjpfhebaaBetTo
namespace Go.Proofs.Ythgfohdjpfhebaa
open Go.RowKit
set_option linter.unusedVariables false

/-- Nothing has been written but between two blocks. -/
structure Span (w w' : World) (lo hi : Nat) : Prop where
  os : w'.os = w.os
  tape : w'.tape = w.tape
  output : w'.output = w.output
  size : w.heap.size ≤ w'.heap.size
  block : ∀ k, k < w.heap.size → ¬ (lo ≤ k ∧ k < hi) → w'.heap[k]? = w.heap[k]?
theorem Span.refl (w : World) (lo hi : Nat) : Span w w lo hi := ⟨rfl, rfl, rfl, Nat.le_refl _, fun _ _ _ => rfl⟩
theorem Span.below {w w' : World} {lo hi : Nat} (h : Below w.heap.size w w') : Span w w' lo hi := ⟨h.os, h.tape, h.output, h.size, fun k hk _ => h.block k hk⟩
theorem Span.grown {w w1 w2 : World} {lo hi : Nat} {row : Option Nat} (h : Span w w1 lo hi) (hg : w1.grownBy w2 row) (hr : ∀ j, row = some j → lo ≤ j ∧ j < hi) : Span w w2 lo hi :=
  ⟨hg.os.trans h.os, hg.tape.trans h.tape, hg.output.trans h.output, Nat.le_trans h.size hg.size, fun k hk hne =>
    (hg.block k (Nat.lt_of_lt_of_le hk h.size) (fun e => hne (hr k e.symm))).trans (h.block k hk hne)⟩
theorem Row.span {w w' : World} {lo a c : Nat} {A : Option Addr} {xs : List Int} (h : Row w lo A xs) (hs : Span w w' a c) (hne : ∀ x, A = some x → x.block < a ∨ c ≤ x.block) : Row w' lo A xs := by
  refine ⟨fun x e => ⟨(h.1 x e).1, Nat.lt_of_lt_of_le (h.1 x e).2 hs.size⟩, fun h0 => ?_⟩
  obtain ⟨g, off, rfl, hc⟩ := h.2 h0
  have hb := hs.block g (h.1 _ rfl).2 (fun q => by have := hne _ rfl; simp only at this; omega)
  exact ⟨g, off, rfl, fun i hi => ⟨(World.cell?_of_block (a := ⟨g, off + i, none⟩) hb).trans (hc i hi).1, (World.frozen?_of_block (a := ⟨g, off + i, none⟩) hb).trans (hc i hi).2⟩⟩
theorem Blk.span {w w' : World} {g a c : Nat} {t : TypeId} {vs : List Value} (h : Blk w g t vs) (hs : Span w w' a c) (hne : g < a ∨ c ≤ g) : Blk w' g t vs := (hs.block g h.lt (fun q => by omega)).trans h
theorem bl_span {a0 w w' : World} {a c : Nat} (hb : Below a0.heap.size a0 w) (hs : Span w w' a c) (hl : a0.heap.size ≤ a) : Below a0.heap.size a0 w' :=
  ⟨hs.os.trans hb.os, hs.tape.trans hb.tape, hs.output.trans hb.output, Nat.le_trans hb.size hs.size, fun k hk => (hs.block k (Nat.lt_of_lt_of_le hk hb.size) (fun q => by omega)).trans (hb.block k hk)⟩
/-- The lists lie below a block. -/
structure Hi5 (L : At5) (n : Nat) : Prop where
  h1 : ∀ a, L.a1 = some a → a.block < n
  h2 : ∀ a, L.a2 = some a → a.block < n
  h3 : ∀ a, L.a3 = some a → a.block < n
  h4 : ∀ a, L.a4 = some a → a.block < n
  h5 : ∀ a, L.a5 = some a → a.block < n
theorem Row5.hi {w : World} {lo : Nat} {L : At5} {b : Bt} (h : Row5 w lo L b) : Hi5 L w.heap.size := ⟨fun a e => (h.r1.1 a e).2, fun a e => (h.r2.1 a e).2, fun a e => (h.r3.1 a e).2, fun a e => (h.r4.1 a e).2, fun a e => (h.r5.1 a e).2⟩
theorem Row5.span {w w' : World} {lo a c : Nat} {L : At5} {b : Bt} (h : Row5 w lo L b) (hs : Span w w' a c) (hne : Hi5 L a ∨ c ≤ lo) : Row5 w' lo L b := by
  have f : ∀ (x : Addr), (lo ≤ x.block) → (Hi5 L a → x.block < a) → x.block < a ∨ c ≤ x.block := fun x q1 q2 => by
    rcases hne with h | h
    · exact .inl (q2 h)
    · exact .inr (by omega)
  have rB : ∀ {A : Option Addr} {xs : List Bool}, RowB w lo A xs → (∀ x, A = some x → x.block < a ∨ c ≤ x.block) → RowB w' lo A xs := fun {A xs} h hne => by
    refine ⟨fun x e => ⟨(h.1 x e).1, Nat.lt_of_lt_of_le (h.1 x e).2 hs.size⟩, fun h0 => ?_⟩
    obtain ⟨g, off, rfl, hc⟩ := h.2 h0
    have hb := hs.block g (h.1 _ rfl).2 (fun q => by have := hne _ rfl; simp only at this; omega)
    exact ⟨g, off, rfl, fun i hi => ⟨(World.cell?_of_block (a := ⟨g, off + i, none⟩) hb).trans (hc i hi).1, (World.frozen?_of_block (a := ⟨g, off + i, none⟩) hb).trans (hc i hi).2⟩⟩
  exact ⟨h.r1.span hs (fun x e => f x (h.r1.1 x e).1 (fun q => q.h1 x e)), h.r2.span hs (fun x e => f x (h.r2.1 x e).1 (fun q => q.h2 x e)), h.r3.span hs (fun x e => f x (h.r3.1 x e).1 (fun q => q.h3 x e)),
    rB h.r4 (fun x e => f x (h.r4.1 x e).1 (fun q => q.h4 x e)), rB h.r5 (fun x e => f x (h.r5.1 x e).1 (fun q => q.h5 x e)), h.p12, h.p13, h.p14, h.p15, h.p23, h.p24, h.p25, h.p34, h.p35, h.p45⟩
theorem apt_ne {A B : Option Addr} {n c : Nat} (p : Apt A B) : ∀ a, A = some a → some a.block ≠ (Value.slice B n c).ownBlock := fun a ea e => by
  rcases B with _ | b
  · cases e
  · exact p a b ea rfl (by injection e)
theorem apt_ne' {A B : Option Addr} {n c : Nat} (p : Apt A B) : ∀ b, B = some b → some b.block ≠ (Value.slice A n c).ownBlock := fun b eb e => by
  rcases A with _ | a
  · cases e
  · exact p a b rfl eb (by injection e with e; exact e.symm)
theorem own_in {A : Option Addr} {n c lo hi : Nat} (h1 : ∀ a, A = some a → lo ≤ a.block) (h2 : ∀ a, A = some a → a.block < hi) : ∀ j, (Value.slice A n c).ownBlock = some j → lo ≤ j ∧ j < hi := fun j e => by
  rcases A with _ | a
  · cases e
  · have : a.block = j := by injection e
    have := h1 a rfl
    have := h2 a rfl
    omega
theorem blkB_ne_ge {W : World} {lo g n c : Nat} {A : Option Addr} {xs : List Bool} (h : RowB W lo A xs) (hg : W.heap.size ≤ g) : some g ≠ (Value.slice A n c).ownBlock := by
  rcases A with _ | a
  · intro e; cases e
  · intro e
    have k := (h.1 a rfl).2
    have : g = a.block := by injection e
    omega
/-- A marked round. -/
def mkB (b : Bt) (k0 : Int) : Bt := { b with st := marks (k0) b.st.length, bt := marks (k0 + (b.st.length : Int)) b.bt.length, pd := marks (k0 + (b.st.length : Int) + (b.bt.length : Int)) b.pd.length, fo := marksB (k0 + (b.st.length : Int) + (b.bt.length : Int) + (b.pd.length : Int)) b.fo.length, ac := marksB (k0 + (b.st.length : Int) + (b.bt.length : Int) + (b.pd.length : Int) + (b.fo.length : Int)) b.ac.length }
def MarkPost5 (w : World) (lo hi : Nat) (k0 : Int) (L : At5) (b : Bt) (e : Ending) (w' : World) : Prop :=
  e = .returned (.int .i64 (k0 + (b.st.length : Int) + (b.bt.length : Int) + (b.pd.length : Int) + (b.fo.length : Int) + (b.ac.length : Int))) ∧ Row5 w' lo L (mkB b k0) ∧ Span w w' lo hi
set_option maxRecDepth 100000 in
set_option maxHeartbeats 8000000 in
theorem markBetting_any (L : At5) (lo hi : Nat) (b : Bt) (k0 : Int) (w : World) (h : Row5 w lo L b) (hh : Hi5 L hi) (m : Sm b) (h0 : 0 ≤ k0) (h1 : k0 ≤ 1000) :
    Calls Try.prog 59 #[bV L b, .int .i64 k0] w (MarkPost5 w lo hi k0 L b) := by
  have m1 := m.m1
  have m2 := m.m2
  have m3 := m.m3
  have m4 := m.m4
  have m5 := m.m5
  have P12 := Lib.hid h.p12
  have P13 := Lib.hid h.p13
  have P14 := Lib.hid h.p14
  have P15 := Lib.hid h.p15
  have P23 := Lib.hid h.p23
  have P24 := Lib.hid h.p24
  have P25 := Lib.hid h.p25
  have P34 := Lib.hid h.p34
  have P35 := Lib.hid h.p35
  have P45 := Lib.hid h.p45
  have HR := Lib.hid h
  have HH := Lib.hid hh
  have bx := bl_alloc (bl_refl w) (.cells (btL L b).toArray 27)
  have N0 := Lib.hid (blk_new w 27 (btL L b))
  have S0 := Lib.hid (Span.below (lo := lo) (hi := hi) bx)
  have R1 := Lib.hid (h.r1.below bx)
  have R2 := Lib.hid (h.r2.below bx)
  have R3 := Lib.hid (h.r3.below bx)
  have R4 := Lib.hid (h.r4.below bx)
  have R5 := Lib.hid (h.r5.below bx)
  have N1 := N0.out
  obtain ⟨q0, -⟩ := N1.cell 0 _ rfl
  obtain ⟨q1, -⟩ := N1.cell 1 _ rfl
  obtain ⟨q2, -⟩ := N1.cell 2 _ rfl
  obtain ⟨q3, -⟩ := N1.cell 3 _ rfl
  obtain ⟨q4, -⟩ := N1.cell 4 _ rfl
  clear N1 h hh m bx
  unfold bV
  go_enter Try.func59, Try.ntmps59
  go_wp2_with (first
    | (go_at_call 74; (with_reducible refine (markRow_any L.a1 L.c1 lo b.st (k0) _ R1.out (by omega) (by omega) (by omega)).mono ?_); rintro e w1 ⟨rfl, ho, hg⟩; have N1a := Lib.hid (N0.out.grown hg (blk_ne_ge HR.out.r1 (Nat.le_refl _))); have S0a := Lib.hid (S0.out.grown hg (own_in (fun a e => (HR.out.r1.1 a e).1) HH.out.h1)); have R2a := Lib.hid (R2.out.grown hg (apt_ne' P12.out)); have R3a := Lib.hid (R3.out.grown hg (apt_ne' P13.out)); have R4a := Lib.hid (R4.out.grown hg (apt_ne' P14.out)); have R5a := Lib.hid (R5.out.grown hg (apt_ne' P15.out)); have R1a := Lib.hid ho; clear ho hg N0 S0 R1 R2 R3 R4 R5; have N0 := N1a; have S0 := S0a; have R1 := R1a; have R2 := R2a; have R3 := R3a; have R4 := R4a; have R5 := R5a; clear N1a S0a R1a R2a R3a R4a R5a; obtain ⟨q0, -⟩ := N0.out.cell 0 _ rfl; obtain ⟨q1, -⟩ := N0.out.cell 1 _ rfl; obtain ⟨q2, -⟩ := N0.out.cell 2 _ rfl; obtain ⟨q3, -⟩ := N0.out.cell 3 _ rfl; obtain ⟨q4, -⟩ := N0.out.cell 4 _ rfl)
    | (go_at_call 74; (with_reducible refine (markRow_any L.a2 L.c2 lo b.bt (k0 + (b.st.length : Int)) _ R2.out (by omega) (by omega) (by omega)).mono ?_); rintro e w2 ⟨rfl, ho, hg⟩; have N2a := Lib.hid (N0.out.grown hg (blk_ne_ge HR.out.r2 (Nat.le_refl _))); have S0a := Lib.hid (S0.out.grown hg (own_in (fun a e => (HR.out.r2.1 a e).1) HH.out.h2)); have R1a := Lib.hid (R1.out.grown hg (apt_ne P12.out)); have R3a := Lib.hid (R3.out.grown hg (apt_ne' P23.out)); have R4a := Lib.hid (R4.out.grown hg (apt_ne' P24.out)); have R5a := Lib.hid (R5.out.grown hg (apt_ne' P25.out)); have R2a := Lib.hid ho; clear ho hg N0 S0 R1 R2 R3 R4 R5; have N0 := N2a; have S0 := S0a; have R1 := R1a; have R2 := R2a; have R3 := R3a; have R4 := R4a; have R5 := R5a; clear N2a S0a R1a R2a R3a R4a R5a; obtain ⟨q0, -⟩ := N0.out.cell 0 _ rfl; obtain ⟨q1, -⟩ := N0.out.cell 1 _ rfl; obtain ⟨q2, -⟩ := N0.out.cell 2 _ rfl; obtain ⟨q3, -⟩ := N0.out.cell 3 _ rfl; obtain ⟨q4, -⟩ := N0.out.cell 4 _ rfl)
    | (go_at_call 74; (with_reducible refine (markRow_any L.a3 L.c3 lo b.pd (k0 + (b.st.length : Int) + (b.bt.length : Int)) _ R3.out (by omega) (by omega) (by omega)).mono ?_); rintro e w3 ⟨rfl, ho, hg⟩; have N3a := Lib.hid (N0.out.grown hg (blk_ne_ge HR.out.r3 (Nat.le_refl _))); have S0a := Lib.hid (S0.out.grown hg (own_in (fun a e => (HR.out.r3.1 a e).1) HH.out.h3)); have R1a := Lib.hid (R1.out.grown hg (apt_ne P13.out)); have R2a := Lib.hid (R2.out.grown hg (apt_ne P23.out)); have R4a := Lib.hid (R4.out.grown hg (apt_ne' P34.out)); have R5a := Lib.hid (R5.out.grown hg (apt_ne' P35.out)); have R3a := Lib.hid ho; clear ho hg N0 S0 R1 R2 R3 R4 R5; have N0 := N3a; have S0 := S0a; have R1 := R1a; have R2 := R2a; have R3 := R3a; have R4 := R4a; have R5 := R5a; clear N3a S0a R1a R2a R3a R4a R5a; obtain ⟨q0, -⟩ := N0.out.cell 0 _ rfl; obtain ⟨q1, -⟩ := N0.out.cell 1 _ rfl; obtain ⟨q2, -⟩ := N0.out.cell 2 _ rfl; obtain ⟨q3, -⟩ := N0.out.cell 3 _ rfl; obtain ⟨q4, -⟩ := N0.out.cell 4 _ rfl)
    | (go_at_call 128; (with_reducible refine (markRow_anyB L.a4 L.c4 lo b.fo (k0 + (b.st.length : Int) + (b.bt.length : Int) + (b.pd.length : Int)) _ R4.out (by omega) (by omega) (by omega)).mono ?_); rintro e w4 ⟨rfl, ho, hg⟩; have N4a := Lib.hid (N0.out.grown hg (blkB_ne_ge HR.out.r4 (Nat.le_refl _))); have S0a := Lib.hid (S0.out.grown hg (own_in (fun a e => (HR.out.r4.1 a e).1) HH.out.h4)); have R1a := Lib.hid (R1.out.grown hg (apt_ne P14.out)); have R2a := Lib.hid (R2.out.grown hg (apt_ne P24.out)); have R3a := Lib.hid (R3.out.grown hg (apt_ne P34.out)); have R5a := Lib.hid (R5.out.grown hg (apt_ne' P45.out)); have R4a := Lib.hid ho; clear ho hg N0 S0 R1 R2 R3 R4 R5; have N0 := N4a; have S0 := S0a; have R1 := R1a; have R2 := R2a; have R3 := R3a; have R4 := R4a; have R5 := R5a; clear N4a S0a R1a R2a R3a R4a R5a; obtain ⟨q0, -⟩ := N0.out.cell 0 _ rfl; obtain ⟨q1, -⟩ := N0.out.cell 1 _ rfl; obtain ⟨q2, -⟩ := N0.out.cell 2 _ rfl; obtain ⟨q3, -⟩ := N0.out.cell 3 _ rfl; obtain ⟨q4, -⟩ := N0.out.cell 4 _ rfl)
    | (go_at_call 128; (with_reducible refine (markRow_anyB L.a5 L.c5 lo b.ac (k0 + (b.st.length : Int) + (b.bt.length : Int) + (b.pd.length : Int) + (b.fo.length : Int)) _ R5.out (by omega) (by omega) (by omega)).mono ?_); rintro e w5 ⟨rfl, ho, hg⟩; have N5a := Lib.hid (N0.out.grown hg (blkB_ne_ge HR.out.r5 (Nat.le_refl _))); have S0a := Lib.hid (S0.out.grown hg (own_in (fun a e => (HR.out.r5.1 a e).1) HH.out.h5)); have R1a := Lib.hid (R1.out.grown hg (apt_ne P15.out)); have R2a := Lib.hid (R2.out.grown hg (apt_ne P25.out)); have R3a := Lib.hid (R3.out.grown hg (apt_ne P35.out)); have R4a := Lib.hid (R4.out.grown hg (apt_ne P45.out)); have R5a := Lib.hid ho; clear ho hg N0 S0 R1 R2 R3 R4 R5; have N0 := N5a; have S0 := S0a; have R1 := R1a; have R2 := R2a; have R3 := R3a; have R4 := R4a; have R5 := R5a; clear N5a S0a R1a R2a R3a R4a R5a; obtain ⟨q0, -⟩ := N0.out.cell 0 _ rfl; obtain ⟨q1, -⟩ := N0.out.cell 1 _ rfl; obtain ⟨q2, -⟩ := N0.out.cell 2 _ rfl; obtain ⟨q3, -⟩ := N0.out.cell 3 _ rfl; obtain ⟨q4, -⟩ := N0.out.cell 4 _ rfl))
  go_ret
  exact ⟨rfl, ⟨R1.out, R2.out, R3.out, R4.out, R5.out, P12.out, P13.out, P14.out, P15.out, P23.out, P24.out, P25.out, P34.out, P35.out, P45.out⟩, S0.out⟩
set_option maxRecDepth 100000 in
set_option maxHeartbeats 6000000 in
theorem heldBetting_any (L : At5) (b : Bt) (k0 : Int) (w : World) (h : Rd5 w L (mkB b k0)) (m : Sm b) (h0 : 0 ≤ k0) (h1 : k0 ≤ 1000) :
    Calls Try.prog 60 #[bV L b, .int .i64 k0] w (Fresh (.int .i64 (k0 + (b.st.length : Int) + (b.bt.length : Int) + (b.pd.length : Int) + (b.fo.length : Int) + (b.ac.length : Int))) w) := by
  have m1 := m.m1
  have m2 := m.m2
  have m3 := m.m3
  have m4 := m.m4
  have m5 := m.m5
  have bx := bl_alloc (bl_refl w) (.cells (btL L b).toArray 27)
  have N1 := blk_new w 27 (btL L b)
  have B := Lib.hid bx
  have K1 := Lib.hid (held_any L.a1 L.c1 (k0) b.st.length _ (h.r1.below bx) (by omega) (by omega) (by omega))
  have d1 : decide (k0 + (b.st.length : Int) < 0) = false := decide_eq_false (by omega)
  have K2 := Lib.hid (held_any L.a2 L.c2 (k0 + (b.st.length : Int)) b.bt.length _ (h.r2.below bx) (by omega) (by omega) (by omega))
  have d2 : decide (k0 + (b.st.length : Int) + (b.bt.length : Int) < 0) = false := decide_eq_false (by omega)
  have K3 := Lib.hid (held_any L.a3 L.c3 (k0 + (b.st.length : Int) + (b.bt.length : Int)) b.pd.length _ (h.r3.below bx) (by omega) (by omega) (by omega))
  have d3 : decide (k0 + (b.st.length : Int) + (b.bt.length : Int) + (b.pd.length : Int) < 0) = false := decide_eq_false (by omega)
  have K4 := Lib.hid (held_anyB L.a4 L.c4 (k0 + (b.st.length : Int) + (b.bt.length : Int) + (b.pd.length : Int)) b.fo.length _ (h.r4.below bx) (by omega) (by omega) (by omega))
  have d4 : decide (k0 + (b.st.length : Int) + (b.bt.length : Int) + (b.pd.length : Int) + (b.fo.length : Int) < 0) = false := decide_eq_false (by omega)
  have K5 := Lib.hid (held_anyB L.a5 L.c5 (k0 + (b.st.length : Int) + (b.bt.length : Int) + (b.pd.length : Int) + (b.fo.length : Int)) b.ac.length _ (h.r5.below bx) (by omega) (by omega) (by omega))
  have d5 : decide (k0 + (b.st.length : Int) + (b.bt.length : Int) + (b.pd.length : Int) + (b.fo.length : Int) + (b.ac.length : Int) < 0) = false := decide_eq_false (by omega)
  obtain ⟨q0, -⟩ := N1.cell 0 _ rfl
  obtain ⟨q1, -⟩ := N1.cell 1 _ rfl
  obtain ⟨q2, -⟩ := N1.cell 2 _ rfl
  obtain ⟨q3, -⟩ := N1.cell 3 _ rfl
  obtain ⟨q4, -⟩ := N1.cell 4 _ rfl
  clear N1 h m bx
  unfold bV
  go_enter Try.func60, Try.ntmps60
  go_wp2_with (first
    | (go_at_call 75; (with_reducible refine (K1.out).mono ?_); rintro e wn ⟨rfl, rfl⟩)
    | (go_at_call 75; (with_reducible refine (K2.out).mono ?_); rintro e wn ⟨rfl, rfl⟩)
    | (go_at_call 75; (with_reducible refine (K3.out).mono ?_); rintro e wn ⟨rfl, rfl⟩)
    | (go_at_call 129; (with_reducible refine (K4.out).mono ?_); rintro e wn ⟨rfl, rfl⟩)
    | (go_at_call 129; (with_reducible refine (K5.out).mono ?_); rintro e wn ⟨rfl, rfl⟩))
  go_ret
  exact ⟨rfl, B.out⟩
end Go.Proofs.Ythgfohdjpfhebaa
