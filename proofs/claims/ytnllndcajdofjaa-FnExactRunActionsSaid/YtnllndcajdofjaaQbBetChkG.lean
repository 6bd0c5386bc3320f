/-
  Put together, what this law needs of: BetChk, BetSt.
-/
import Derived.Test.YtnllndcajdofjaaQbSpecBetP
import Derived.WalkMore
import Derived.Test.YtnllndcajdofjaaQbBetEG
import Derived.Test.YtnllndcajdofjaaQbSpecBetNG
namespace Go.Proofs.Ytnllndcajdofjaa
open Go.RowKit
set_option linter.unusedVariables false

/-- What a call leaves that returns a new round, a number and a code. -/
def NewBtNC (b : Bt) (n k : Int) (w : World) (e : Ending) (w' : World) : Prop := ∃ L : At5, e = .returned (.tuple #[.agg #[.slice L.a1 b.st.length L.c1, .slice L.a2 b.bt.length L.c2, .slice L.a3 b.pd.length L.c3, .slice L.a4 b.fo.length L.c4, .slice L.a5 b.ac.length L.c5, .int .i64 b.tu, .int .i64 b.un, .int .i64 b.ra, .int .i64 b.li], .int .i64 n, .int .i64 k]) ∧ Row5 w' w.heap.size L b ∧ Below w.heap.size w w'
/-- What the loop keeps: the round in its box, the result's box. -/
structure Dn (w0 : World) (lo gR gZ : Nat) (L : At5) (c : Bt) (W : World) : Prop where
  blk : Blk W gR 27 (btL L c)
  rows : Row5 W lo L c
  res : Blk W gZ 27 [.slice none 0 0, .slice none 0 0, .slice none 0 0, .slice none 0 0, .slice none 0 0, .int .i64 0, .int .i64 0, .int .i64 0, .int .i64 0]
  all : Below w0.heap.size w0 W
theorem Dn.below {w0 W W' : World} {lo gR gZ : Nat} {L : At5} {c : Bt} (h : Dn w0 lo gR gZ L c W) (hb : Below W.heap.size W W') : Dn w0 lo gR gZ L c W' := ⟨h.blk.below hb, h.rows.below hb, h.res.below hb, bl_trans h.all hb⟩
/-- A new round is stored into the box. -/
theorem Dn.put {w0 W X W' : World} {lo gR gZ : Nat} {L L' : At5} {c c' : Bt} (h : Dn w0 lo gR gZ L c W) (hX : Below W.heap.size W X) (hr : Row5 X W.heap.size L' c') (hk : Blk W' gR 27 (btL L' c')) (hg : X.grownBy W' (some gR)) (hlo : lo ≤ W.heap.size) (h0 : w0.heap.size ≤ gR) (hz : gZ ≠ gR) : Dn w0 lo gR gZ L' c' W' :=
  ⟨hk, (hr.grownB' hg h.blk.lt).less hlo, (h.res.below hX).grown hg (fun e => hz (Option.some.inj e)), below_grown1 (bl_trans h.all hX) hg h0⟩
end Go.Proofs.Ytnllndcajdofjaa

namespace Go.Proofs.Ytnllndcajdofjaa
open Go.RowKit
set_option linter.unusedVariables false

/-- A round in a box, its lists between lo and hi, the box not among them; nothing of it below n0. -/
structure St (n0 : Nat) (W : World) (g lo hi : Nat) (L : At5) (b : Bt) : Prop where
  blk : Blk W g 27 (btL L b)
  rows : Row5 W lo L b
  hi5 : Hi5 L hi
  ap : g < lo ∨ hi ≤ g
  lo0 : n0 ≤ lo
  g0 : n0 ≤ g
  hle : hi ≤ W.heap.size
theorem St.below {n0 g lo hi : Nat} {W W' : World} {L : At5} {b : Bt} (h : St n0 W g lo hi L b) (hb : Below W.heap.size W W') : St n0 W' g lo hi L b :=
  ⟨h.blk.below hb, h.rows.below hb, h.hi5, h.ap, h.lo0, h.g0, Nat.le_trans h.hle hb.size⟩
/-- What lies below n0 has been written. -/
theorem St.span {n0 g lo hi a c : Nat} {W W' : World} {L : At5} {b : Bt} (h : St n0 W g lo hi L b) (hs : Span W W' a c) (hc : c ≤ n0) : St n0 W' g lo hi L b :=
  ⟨h.blk.span hs (.inr (Nat.le_trans hc h.g0)), h.rows.span hs (.inr (Nat.le_trans hc h.lo0)), h.hi5, h.ap, h.lo0, h.g0, Nat.le_trans h.hle hs.size⟩
/-- What lies above it has been written. -/
theorem St.spanA {n0 g lo hi a c : Nat} {W W' : World} {L : At5} {b : Bt} (h : St n0 W g lo hi L b) (hs : Span W W' a c) (h1 : hi ≤ a) (h2 : g < a) : St n0 W' g lo hi L b :=
  ⟨h.blk.span hs (.inl h2), h.rows.span hs (.inl ⟨fun x e => Nat.lt_of_lt_of_le (h.hi5.h1 x e) h1, fun x e => Nat.lt_of_lt_of_le (h.hi5.h2 x e) h1, fun x e => Nat.lt_of_lt_of_le (h.hi5.h3 x e) h1, fun x e => Nat.lt_of_lt_of_le (h.hi5.h4 x e) h1, fun x e => Nat.lt_of_lt_of_le (h.hi5.h5 x e) h1⟩), h.hi5, h.ap, h.lo0, h.g0, Nat.le_trans h.hle hs.size⟩
theorem Row5.grownA {w w' : World} {lo j : Nat} {L : At5} {b : Bt} (h : Row5 w lo L b) (hg : w.grownBy w' (some j)) (hj : Hi5 L j) : Row5 w' lo L b :=
  h.span ((Span.refl w j (j + 1)).grown hg (fun q e => by have := Option.some.inj e; omega)) (.inl hj)
/-- The lists first, the box behind them. -/
theorem St.rowsBox {n0 lo : Nat} {W W' W'' : World} {g : Nat} {L : At5} {b : Bt} (h : Row5 W lo L b) (hl : n0 ≤ lo) (hg : W.heap.size ≤ g) (hb : Below W.heap.size W W') (hk : Blk W' g 27 (btL L b)) (hgr : n0 ≤ g) : St n0 W' g lo W.heap.size L b :=
  ⟨hk, h.below hb, h.hi, .inr hg, hl, hgr, hb.size⟩
end Go.Proofs.Ytnllndcajdofjaa
