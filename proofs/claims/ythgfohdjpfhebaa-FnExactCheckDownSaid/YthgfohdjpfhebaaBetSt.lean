/-
  Laws whose result is a round: its box and its lists, wherever they came to lie.
-/
import Derived.Test.YthgfohdjpfhebaaBetMark
import Derived.Test.YthgfohdjpfhebaaBetSet
import Derived.Test.YthgfohdjpfhebaaBetOs
namespace Go.Proofs.Ythgfohdjpfhebaa
open Go.RowKit
set_option linter.unusedVariables false

/-- A round in a box, its lists between lo and hi, the box not among them; nothing of it below n0. -/
structure St (n0 : Nat) (W : World) (g lo hi : Nat) (L : At5) (b : Bt) : Prop where
  blk : Blk W g 27 (btL L b)
  rows : Row5 W lo L b
  hi5 : Hi5 L hi
  ap : g < lo ∨ hi ≤ g
  lo0 : n0 ≤ lo
  g0 : n0 ≤ g
  hle : hi ≤ W.heap.size
theorem St.below {n0 g lo hi : Nat} {W W' : World} {L : At5} {b : Bt} (h : St n0 W g lo hi L b) (hb : Below W.heap.size W W') : St n0 W' g lo hi L b :=
  ⟨h.blk.below hb, h.rows.below hb, h.hi5, h.ap, h.lo0, h.g0, Nat.le_trans h.hle hb.size⟩
/-- What lies below n0 has been written. -/
theorem St.span {n0 g lo hi a c : Nat} {W W' : World} {L : At5} {b : Bt} (h : St n0 W g lo hi L b) (hs : Span W W' a c) (hc : c ≤ n0) : St n0 W' g lo hi L b :=
  ⟨h.blk.span hs (.inr (Nat.le_trans hc h.g0)), h.rows.span hs (.inr (Nat.le_trans hc h.lo0)), h.hi5, h.ap, h.lo0, h.g0, Nat.le_trans h.hle hs.size⟩
/-- What lies above it has been written. -/
theorem St.spanA {n0 g lo hi a c : Nat} {W W' : World} {L : At5} {b : Bt} (h : St n0 W g lo hi L b) (hs : Span W W' a c) (h1 : hi ≤ a) (h2 : g < a) : St n0 W' g lo hi L b :=
  ⟨h.blk.span hs (.inl h2), h.rows.span hs (.inl ⟨fun x e => Nat.lt_of_lt_of_le (h.hi5.h1 x e) h1, fun x e => Nat.lt_of_lt_of_le (h.hi5.h2 x e) h1, fun x e => Nat.lt_of_lt_of_le (h.hi5.h3 x e) h1, fun x e => Nat.lt_of_lt_of_le (h.hi5.h4 x e) h1, fun x e => Nat.lt_of_lt_of_le (h.hi5.h5 x e) h1⟩), h.hi5, h.ap, h.lo0, h.g0, Nat.le_trans h.hle hs.size⟩
theorem Row5.grownA {w w' : World} {lo j : Nat} {L : At5} {b : Bt} (h : Row5 w lo L b) (hg : w.grownBy w' (some j)) (hj : Hi5 L j) : Row5 w' lo L b :=
  h.span ((Span.refl w j (j + 1)).grown hg (fun q e => by have := Option.some.inj e; omega)) (.inl hj)
/-- The lists first, the box behind them. -/
theorem St.rowsBox {n0 lo : Nat} {W W' W'' : World} {g : Nat} {L : At5} {b : Bt} (h : Row5 W lo L b) (hl : n0 ≤ lo) (hg : W.heap.size ≤ g) (hb : Below W.heap.size W W') (hk : Blk W' g 27 (btL L b)) (hgr : n0 ≤ g) : St n0 W' g lo W.heap.size L b :=
  ⟨hk, h.below hb, h.hi, .inr hg, hl, hgr, hb.size⟩
/-- The box first. -/
theorem St.boxRows {n0 lo : Nat} {W : World} {g : Nat} {L : At5} {b : Bt} (h : Row5 W lo L b) (hl : n0 ≤ lo) (hg : g < lo) (hk : Blk W g 27 (btL L b)) (hgr : n0 ≤ g) : St n0 W g lo W.heap.size L b :=
  ⟨hk, h, h.hi, .inl hg, hl, hgr, Nat.le_refl _⟩
end Go.Proofs.Ythgfohdjpfhebaa
