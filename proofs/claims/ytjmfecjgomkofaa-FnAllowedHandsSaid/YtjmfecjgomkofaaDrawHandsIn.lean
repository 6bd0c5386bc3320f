/-
  DrawHandsIn: what FnAllowedHands draws.
-/
import Derived.Test.YtjmfecjgomkofaaDrawHands6
import Derived.Test.YtjmfecjgomkofaaDraws
namespace Go.Proofs.Ytjmfecjgomkofaa
open Go.RowKit
set_option linter.unusedVariables false

/-- A variant and two lists that a law draws from its code. -/
def DrawnV (w : World) (e : Ending) (w' : World) : Prop :=
  ∃ (h l m b : Int) (hi : Bool) (lo : Int) (A : Option Addr) (cc : Nat) (hs : List Int) (A2 : Option Addr) (c2 : Nat) (bs : List Int), e = .returned (.tuple #[vV h l m b hi lo, .slice A hs.length cc, .slice A2 bs.length c2]) ∧ (-10 ≤ m ∧ m ≤ 10) ∧ hs.length ≤ 20 ∧ bs.length ≤ 20 ∧ hs.length ≤ cc ∧ bs.length ≤ c2 ∧
    Rd w' A hs ∧ Rd w' A2 bs ∧ Below w.heap.size w w'
set_option maxRecDepth 100000 in
set_option maxHeartbeats 2000000 in
theorem drawHandsIn_any (a : Option Addr) (L c : Nat) (zs : Nat → Int) (w : World) (hL : L ≤ 4096) (hc : CodeIn w a L zs) :
    Calls Try.prog 14 #[.slice a L c] w (DrawnV w) := by
  obtain ⟨w0, rfl⟩ : ∃ w0 : World, w0 = w := ⟨w, rfl⟩
  have KF := Lib.hid (fun (W : World) (hb : Below w0.heap.size w0 W) => from_any a L c zs W hL (codeIn_below hc hb))
  have B0 := Lib.hid (bl_alloc (bl_refl w0) (.cells #[.int .i64 0, .int .i64 0, .int .i64 0, .int .i64 0, .bool false, .int .i64 0] 25))
  clear hc
  go_enter Try.func14, Try.ntmps14
  go_wp2_with (first
    | (go_at_call 47; refine (KF.out _ B0.out).mono ?_; rintro e w1 ⟨rfl, hs1, hb1⟩; rw [World.size_alloc] at hs1; have KD := Lib.hid (draw6_any _ _ _ _ _ _ hs1); have P1 := Lib.hid ((blk_new w0 25 [.int .i64 0, .int .i64 0, .int .i64 0, .int .i64 0, .bool false, .int .i64 0]).below hb1); have B1 := Lib.hid (bl_trans B0.out hb1); clear hs1 hb1)
    | (go_at_call 46; refine (KD.out).mono ?_; rintro e w2 ⟨vh, vl, vm, vb, vhi, vlo, A, cc, hs, A2, c2, bs, rfl, b2, l1, l2, l3, l4, r1, r2, ne1, ne2, hs2, ho2⟩; have P2 := P1.out.grown ho2 (fun e => by have := Option.some.inj e; omega); have B2 := Lib.hid (below_only (Nat.le_succ _) B1.out.size ho2); obtain ⟨q0, f0⟩ := P2.cell 0 _ rfl; obtain ⟨q1, f1⟩ := P2.cell 1 _ rfl; obtain ⟨q2, f2⟩ := P2.cell 2 _ rfl; obtain ⟨q3, f3⟩ := P2.cell 3 _ rfl; obtain ⟨q4, f4⟩ := P2.cell 4 _ rfl; obtain ⟨q5, f5⟩ := P2.cell 5 _ rfl; have P2 := Lib.hid P2; unfold vV))
  have hz1 : w0.heap.size < w1.heap.size := by have := B1.out.size; have := P1.out.lt; omega
  obtain ⟨hb, hg⟩ := blk_six P2.out (.int .i64 vh) (.int .i64 vl) (.int .i64 vm) (.int .i64 vb) (.bool vhi) (.int .i64 vlo)
  obtain ⟨W, eW⟩ : ∃ W, W = ((((((w2.setCell ⟨w0.heap.size, 0, none⟩ (.int .i64 vh)).setCell ⟨w0.heap.size, 1, none⟩ (.int .i64 vl)).setCell ⟨w0.heap.size, 2, none⟩ (.int .i64 vm)).setCell ⟨w0.heap.size, 3, none⟩ (.int .i64 vb)).setCell ⟨w0.heap.size, 4, none⟩ (.bool vhi)).setCell ⟨w0.heap.size, 5, none⟩ (.int .i64 vlo)) := ⟨_, rfl⟩
  rw [← eW] at hb hg ⊢
  clear eW q0 q1 q2 q3 q4 q5
  obtain ⟨u0, _⟩ := hb.cell 0 _ rfl
  obtain ⟨u1, _⟩ := hb.cell 1 _ rfl
  obtain ⟨u2, _⟩ := hb.cell 2 _ rfl
  obtain ⟨u3, _⟩ := hb.cell 3 _ rfl
  obtain ⟨u4, _⟩ := hb.cell 4 _ rfl
  obtain ⟨u5, _⟩ := hb.cell 5 _ rfl
  exact bodyPost_ret (v := .tuple #[vV vh vl vm vb vhi vlo, .slice A hs.length cc, .slice A2 bs.length c2]) (by simp [results, Try.results14, go_sem, vV, u0, u1, u2, u3, u4, u5]) rfl
    ⟨_, _, _, _, _, _, _, _, _, _, _, _, rfl, b2, l1, l2, l3, l4, rd_grown r1 hg (fun x e q => by have := ne1 x e; have := Option.some.inj q; omega), rd_grown r2 hg (fun x e q => by have := ne2 x e; have := Option.some.inj q; omega), bl_blk (B1.out.trans B2.out) hg (Nat.le_refl _)⟩
end Go.Proofs.Ytjmfecjgomkofaa
