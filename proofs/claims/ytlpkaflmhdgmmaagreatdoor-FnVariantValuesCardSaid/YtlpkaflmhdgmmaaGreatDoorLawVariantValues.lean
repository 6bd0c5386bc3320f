/-
  The card of the law FnVariantValues: it returns true for every code: the best hand of a variant has its value, and no other hand a better one.
  Condition: the variable impl.lowestStraight reads as the program lays it (the card ties it).
-/
import Derived.Test.YtlpkaflmhdgmmaaGreatDoorBestInSpec
import Derived.Test.YtlpkaflmhdgmmaaGreatDoorLowG
import Derived.Test.YtlpkaflmhdgmmaaGreatDoorDrawG
import Derived.Test.YtlpkaflmhdgmmaaGreatDoorHand
import Derived.Test.YtlpkaflmhdgmmaaGreatDoorCards
import Derived.SevenTiedAt
import Derived.Lib.SmallJoins
namespace Go.Proofs.YtlpkaflmhdgmmaaGreatDoor
open Go.ChangeShapes Go.WideShapes Go.ChangeAt Go.RowKit Go.Joins
set_option linter.unusedVariables false

theorem beR_le (h l m b : Int) (hi : Bool) (lo : Int) (hs bs : List Int) : (beR h l m b hi lo hs bs).length ≤ 5 := by
  by_cases he : beC h l m b hi lo hs bs = 0
  · by_cases hcz : codeH h l m b hi lo hs bs = 0
    · obtain ⟨hv, e1, e2⟩ := code_zero hcz
      subst e1
      subst e2
      obtain ⟨⟨f1, f2⟩, ⟨f3, f4⟩, ⟨f5, f6⟩, ⟨f7, f8⟩, f9⟩ := hasCards_iff.1 (isVar_cards hv)
      obtain ⟨l', rfl⟩ := Int.eq_ofNat_of_zero_le f5
      obtain ⟨m', rfl⟩ := Int.eq_ofNat_of_zero_le (Int.le_trans f5 f6)
      have hcd := fun k hk => hRows_cards_at hs bs l' (m' + 1 - l') (by omega) (code_cards hcz) k hk
      have hix := (be_facts hi lo (hRows hs bs l' (m' + 1 - l')) (hRows_pos hs bs l' m' (by omega) (by omega) (by omega) (by omega) (by omega) (by omega)) hcd).1
      have e : beR (hs.length : Int) l' m' (bs.length : Int) hi lo hs bs = (hRows hs bs l' (m' + 1 - l')).getD (beI hi lo (hRows hs bs l' (m' + 1 - l'))) [] := by unfold beR; rw [if_pos he]; rfl
      rw [e, (hcd _ hix).2]
      omega
    · unfold beC at he
      rw [if_neg hcz] at he
      exact absurd he hcz
  · unfold beR
    rw [if_neg he]
    simp
/-- What the law asks, in plain words: the best hand has the high value; every hand is worth the low value at least, and one is worth it. -/
theorem vv_high {h l m b : Int} {hi : Bool} {lo : Int} {hs bs : List Int} (hz : hiC h l m b hi lo hs bs = 0) :
    beC h l m b hi lo hs bs = 0 ∧ sizedB (beR h l m b hi lo hs bs) 5 5 = true ∧ hvR (beR h l m b hi lo hs bs) = hiR h l m b hi lo hs bs := by
  have hcz : codeH h l m b hi lo hs bs = 0 := by
    by_cases e : codeH h l m b hi lo hs bs = 0
    · exact e
    · unfold hiC at hz; rw [if_neg e] at hz; exact absurd hz e
  have hhi : hi = true := by
    unfold hiC at hz
    rw [if_pos hcz] at hz
    by_cases e : hi = true
    · exact e
    · rw [if_neg e] at hz; omega
  subst hhi
  obtain ⟨hv', e1, e2⟩ := code_zero hcz
  subst e1
  subst e2
  obtain ⟨⟨f1, f2⟩, ⟨f3, f4⟩, ⟨f5, f6⟩, ⟨f7, f8⟩, f9⟩ := hasCards_iff.1 (isVar_cards hv')
  obtain ⟨l', rfl⟩ := Int.eq_ofNat_of_zero_le f5
  obtain ⟨m', rfl⟩ := Int.eq_ofNat_of_zero_le (Int.le_trans f5 f6)
  have hcd := fun k hk => hRows_cards_at hs bs l' (m' + 1 - l') (by omega) (code_cards hcz) k hk
  obtain ⟨hix, hT, _⟩ := be_facts true lo (hRows hs bs l' (m' + 1 - l')) (hRows_pos hs bs l' m' (by omega) (by omega) (by omega) (by omega) (by omega) (by omega)) hcd
  obtain ⟨t1, _, _⟩ := hT rfl
  obtain ⟨r1, r2⟩ := be_yes (hi := true) (lo := lo) hcz rfl
  have hsz : sizedB ((hRows hs bs l' (m' + 1 - l')).getD (beI true lo (hRows hs bs l' (m' + 1 - l'))) []) 5 5 = true := sized_iff.2 ⟨by rw [(hcd _ hix).2]; decide, by rw [(hcd _ hix).2]; decide, (hcd _ hix).1⟩
  refine ⟨r2, by rw [r1]; exact hsz, ?_⟩
  rw [r1, hvR_yes hsz, t1]
  unfold hiR
  rw [if_pos hz]
  rfl
theorem vv_low {h l m b : Int} {hi : Bool} {lo : Int} {hs bs : List Int} (hz : lwC h l m b hi lo hs bs = 0) (h3 : lo ≠ 3) :
    codeH h l m b hi lo hs bs = 0 ∧ (∀ j, j < nH 0 l m hs bs → (rH l m hs bs j).length = 5 ∧ sizedB (rH l m hs bs j) 5 5 = true ∧ avR (rH l m hs bs j) 5 = aceS (rH l m hs bs j) ∧ lwR h l m b hi lo hs bs ≤ aceS (rH l m hs bs j)) ∧
      ∃ j, j < nH 0 l m hs bs ∧ aceS (rH l m hs bs j) = lwR h l m b hi lo hs bs := by
  have hcz : codeH h l m b hi lo hs bs = 0 := by
    by_cases e : codeH h l m b hi lo hs bs = 0
    · exact e
    · unfold lwC at hz; rw [if_neg e] at hz; exact absurd hz e
  have hr : lwR h l m b hi lo hs bs = beV false lo (handsH l m hs bs) := by unfold lwR; rw [if_pos hz]
  obtain ⟨hv', e1, e2⟩ := code_zero hcz
  subst e1
  subst e2
  obtain ⟨⟨f1, f2⟩, ⟨f3, f4⟩, ⟨f5, f6⟩, ⟨f7, f8⟩, f9⟩ := hasCards_iff.1 (isVar_cards hv')
  obtain ⟨l', rfl⟩ := Int.eq_ofNat_of_zero_le f5
  obtain ⟨m', rfl⟩ := Int.eq_ofNat_of_zero_le (Int.le_trans f5 f6)
  rw [hr]
  have hcd := fun k hk => hRows_cards_at hs bs l' (m' + 1 - l') (by omega) (code_cards hcz) k hk
  have hpos := hRows_pos hs bs l' m' (by omega) (by omega) (by omega) (by omega) (by omega) (by omega)
  have en : nH 0 (l' : Int) m' hs bs = (hRows hs bs l' (m' + 1 - l')).length := by unfold nH; rw [if_pos rfl]; rfl
  have er : ∀ j, rH (l' : Int) m' hs bs j = (hRows hs bs l' (m' + 1 - l')).getD j [] := fun j => rfl
  have ev : beV false lo (handsH (l' : Int) m' hs bs) = lowT (fun k => loS lo ((hRows hs bs l' (m' + 1 - l')).getD k [])) (hRows hs bs l' (m' + 1 - l')).length := rfl
  have el : ∀ xs, loS lo xs = aceS xs := fun xs => by unfold loS; rw [if_neg h3]
  obtain ⟨a0, a1, a2, a3, a4⟩ := low_all (fun k => loS lo ((hRows hs bs l' (m' + 1 - l')).getD k [])) _ hpos (fun k hk => (loS_bd lo _ (hcd k hk).1 (hcd k hk).2).1)
  rw [en, ev]
  refine ⟨hcz, fun j hj => ?_, _, a0, ?_⟩
  · rw [er]
    have hsz : sizedB ((hRows hs bs l' (m' + 1 - l')).getD j []) 5 5 = true := sized_iff.2 ⟨by rw [(hcd j hj).2]; decide, by rw [(hcd j hj).2]; decide, (hcd j hj).1⟩
    refine ⟨(hcd j hj).2, hsz, by rw [avR_yes hsz, leastR_five (hcd j hj).1 (hcd j hj).2], ?_⟩
    rw [← el]
    exact a3 j hj
  · rw [er, ← el]
    exact a1
/-- Has one of the first values been x? -/
def rch (V : Nat → Int) (x : Int) : Nat → Bool
  | 0 => false
  | n + 1 => rch V x n || decide (V n = x)
theorem rch_yes {V : Nat → Int} {x : Int} : ∀ {n j : Nat}, j < n → V j = x → rch V x n = true
  | n + 1, j, hj, h => by
    rw [rch]
    by_cases e : j = n
    · subst e; rw [decide_eq_true h, Bool.or_true]
    · rw [rch_yes (by omega) h]; rfl
set_option maxRecDepth 100000 in
set_option maxHeartbeats 8000000 in
theorem walkVV_in (a : Option Addr) (L c : Nat) (zs : Nat → Int) (w : World) (HT : Hid (Low w.heap.size w)) (hL : L ≤ 4096) (hc : CodeIn w a L zs) :
    Calls Tryz.prog 3 #[.slice a L c] w (Fresh (.bool true) w) := by
  have HC := Lib.hid hc
  clear hc
  go_enter Tryz.func3, Tryz.ntmps3
  go_wp2_with (go_at_call 5; ((with_reducible refine (big_no _ _ _ _ hL).mono ?_); rintro e w0 ⟨rfl, rfl⟩))
  go_wp2_with (go_at_call 6; ((with_reducible refine (drawBestIn_any _ _ _ zs _ hL HC.out).mono ?_); rintro e w1 ⟨h, l, m, b, hi, lo, A, cc, hs, A2, c2, bs, rfl, hmb, hl1, hl2, hc1, hc2, hr1, hr2, hb1⟩; have R1 := Lib.hid hr1; have R2 := Lib.hid hr2; have N1 := Lib.hid (blk_new w1 25 [.int .i64 h, .int .i64 l, .int .i64 m, .int .i64 b, .bool hi, .int .i64 lo]); obtain ⟨q0, _⟩ := N1.out.cell 0 _ rfl; obtain ⟨q1, _⟩ := N1.out.cell 1 _ rfl; obtain ⟨q2, _⟩ := N1.out.cell 2 _ rfl; obtain ⟨q3, _⟩ := N1.out.cell 3 _ rfl; obtain ⟨q4, _⟩ := N1.out.cell 4 _ rfl; obtain ⟨q5, _⟩ := N1.out.cell 5 _ rfl; have BB := bl_alloc (bl_refl w1) (.cells ([.int .i64 h, .int .i64 l, .int .i64 m, .int .i64 b, .bool hi, .int .i64 lo] : List Value).toArray 25); have X1 := Lib.hid (bl_trans hb1 BB); have Q1 := Lib.hid (hr1.below BB); have Q2 := Lib.hid (hr2.below BB); unfold vV; clear hr1 hr2 hb1 BB))
  have hm64 : i64B m := by unfold i64B; omega
  obtain ⟨zs', k1, x2, k2, x3, k3, H, V, RR, hz5, hH, KA1, KA2, KB1, KB2, KC1, KC2, KH, hHV, hAV, hrw⟩ : ∃ (zs' : List Int) (k1 x2 k2 x3 k3 : Int) (H : Nat) (V : Nat → Int) (RR : Nat → List Int), zs'.length ≤ 5 ∧ H ≤ 7350 ∧
      Hid (∀ W, Below w.heap.size w W → Rd W A hs → Rd W A2 bs → Calls Tryz.prog 7 #[vV h l m b hi lo, .slice A hs.length cc, .slice A2 bs.length c2] W (NewRC zs' k1 W)) ∧
      Hid (∀ W, Rd W A hs → Rd W A2 bs → Calls Tryz.prog 8 #[vV h l m b hi lo, .slice A hs.length cc, .slice A2 bs.length c2] W (NewRC zs' k1 W)) ∧
      Hid (∀ W, Below w.heap.size w W → Rd W A hs → Rd W A2 bs → Calls Tryz.prog 9 #[vV h l m b hi lo, .slice A hs.length cc, .slice A2 bs.length c2] W (Fresh (pairV x2 k2) W)) ∧
      Hid (∀ W, Rd W A hs → Rd W A2 bs → Calls Tryz.prog 10 #[vV h l m b hi lo, .slice A hs.length cc, .slice A2 bs.length c2] W (Fresh (pairV x2 k2) W)) ∧
      Hid (∀ W, Below w.heap.size w W → Rd W A hs → Rd W A2 bs → Calls Tryz.prog 11 #[vV h l m b hi lo, .slice A hs.length cc, .slice A2 bs.length c2] W (Fresh (pairV x3 k3) W)) ∧
      Hid (∀ W, Rd W A hs → Rd W A2 bs → Calls Tryz.prog 12 #[vV h l m b hi lo, .slice A hs.length cc, .slice A2 bs.length c2] W (Fresh (pairV x3 k3) W)) ∧
      Hid (k3 = 0 → lo ≠ 3 → ∀ W, Rd W A hs → Rd W A2 bs → Calls Tryz.prog 15 #[vV h l m b hi lo, .slice A hs.length cc, .slice A2 bs.length c2] W (NewFam H RR 0 W)) ∧
      Hid (k2 = 0 → k1 = 0 ∧ ∀ (A9 : Option Addr) (c9 : Nat) (W : World), Below w.heap.size w W → Rd W A9 zs' → Calls Tryz.prog 14 #[.slice A9 zs'.length c9] W (Fresh (pairV x2 0) W)) ∧
      Hid (k3 = 0 → lo ≠ 3 → (∀ j, j < H → x3 ≤ V j ∧ ∀ (A9 : Option Addr) (c9 : Nat) (W : World), Rd W A9 (RR j) → Calls Tryz.prog 16 #[.slice A9 5 c9] W (Fresh (pairV (V j) 0) W)) ∧ rch V x3 H = true) ∧
      Hid (k3 = 0 → lo ≠ 3 → ∀ j, j < H → (RR j).length = 5) := by
    have hbd := hands_bd (h := h) (l := l) (m := m) (b := b) (hi := hi) (lo := lo) (hs := hs) (bs := bs)
    refine ⟨beR h l m b hi lo hs bs, beC h l m b hi lo hs bs, hiR h l m b hi lo hs bs, hiC h l m b hi lo hs bs, lwR h l m b hi lo hs bs, lwC h l m b hi lo hs bs, nH (codeH h l m b hi lo hs bs) l m hs bs, fun j => aceS (rH l m hs bs j), rH l m hs bs, beR_le h l m b hi lo hs bs, hbd.1,
      Lib.hid (fun W hb h1 h2 => implBest_any h l m b hi lo A cc hs A2 c2 bs w.heap.size w W HT (Lib.hid hb) (Lib.hid hb.size) hm64 h1 h2 (by omega) (by omega)),
      Lib.hid (fun W h1 h2 => specBest_any h l m b hi lo A cc hs A2 c2 bs W hm64 h1 h2 (by omega) (by omega) hc1 hc2),
      Lib.hid (fun W hb h1 h2 => implHighIn_any h l m b hi lo A cc hs A2 c2 bs w.heap.size w W HT (Lib.hid hb) (Lib.hid hb.size) hm64 h1 h2 (by omega) (by omega)),
      Lib.hid (fun W h1 h2 => specHighIn_any h l m b hi lo A cc hs A2 c2 bs W hm64 h1 h2 (by omega) (by omega) hc1 hc2),
      Lib.hid (fun W hb h1 h2 => implLowIn_any h l m b hi lo A cc hs A2 c2 bs w.heap.size w W HT (Lib.hid hb) (Lib.hid hb.size) hm64 h1 h2 (by omega) (by omega)),
      Lib.hid (fun W h1 h2 => specLowIn_any h l m b hi lo A cc hs A2 c2 bs W hm64 h1 h2 (by omega) (by omega) hc1 hc2),
      Lib.hid (fun h0 h3 W h1 h2 => ?_), Lib.hid (fun h0 => ?_), Lib.hid (fun h0 h3 => ?_), Lib.hid (fun h0 h3 j hj => ?_)⟩
    · have e := (vv_low h0 h3).1
      have k := implHandsIn_any h l m b hi lo A cc hs A2 c2 bs W hm64 h1 h2 (by omega) (by omega)
      rw [e] at k ⊢
      exact k
    · obtain ⟨e1, e2, e3⟩ := vv_high h0
      refine ⟨e1, fun A9 c9 W hb hr => ?_⟩
      have k := implHighValue_any A9 c9 _ w.heap.size w W HT (Lib.hid hb) (Lib.hid hb.size) hr (by have := beR_le h l m b hi lo hs bs; omega)
      rw [e3, codeZ_yes e2] at k
      exact k
    · obtain ⟨e1, e2, j0, hj0, ej0⟩ := vv_low h0 h3
      rw [e1]
      refine ⟨fun j hj => ⟨(e2 j hj).2.2.2, fun A9 c9 W hr => ?_⟩, rch_yes hj0 ej0⟩
      obtain ⟨g1, g2, g3, _⟩ := e2 j hj
      have k := implAceValue_any A9 c9 _ W hr (by omega)
      rw [g3, codeZ_yes g2, g1] at k
      exact k
    · obtain ⟨e1, e2, _⟩ := vv_low h0 h3
      rw [e1] at hj
      exact (e2 j hj).1
  have hH4 : H ≤ 4000000 := by omega
  have hzl : zs'.length ≤ 4000000 := by omega
  unfold vV pairV at *
  have XB := Lib.hid (bl_refl (w1.alloc (.cells ([.int .i64 h, .int .i64 l, .int .i64 m, .int .i64 b, .bool hi, .int .i64 lo] : List Value).toArray 25)))
  go_wp2_with (go_at_call 7; ((with_reducible refine (KA1.out _ X1.out (Q1.out.below XB.out) (Q2.out.below XB.out)).mono ?_); rintro e w2 ⟨A4, c4, rfl, hf, hb⟩; have F2 := Lib.hid hf; clear hf; have Y2 := Lib.hid (bl_trans XB.out hb); have N2 := Lib.hid (N1.out.below hb); clear q0 q1 q2 q3 q4 q5; obtain ⟨q0, _⟩ := N2.out.cell 0 _ rfl; obtain ⟨q1, _⟩ := N2.out.cell 1 _ rfl; obtain ⟨q2, _⟩ := N2.out.cell 2 _ rfl; obtain ⟨q3, _⟩ := N2.out.cell 3 _ rfl; obtain ⟨q4, _⟩ := N2.out.cell 4 _ rfl; obtain ⟨q5, _⟩ := N2.out.cell 5 _ rfl; have X2 := Lib.hid (bl_trans X1.out hb); clear hb))
  go_wp2_with (go_at_call 8; ((with_reducible refine (KA2.out _ (Q1.out.below Y2.out) (Q2.out.below Y2.out)).mono ?_); rintro e w3 ⟨A5, c5, rfl, hf, hb⟩; have G3 := Lib.hid hf; have F3 := Lib.hid (F2.out.below hb); clear hf; have Y3 := Lib.hid (bl_trans Y2.out hb); have N3 := Lib.hid (N2.out.below hb); clear q0 q1 q2 q3 q4 q5; obtain ⟨q0, _⟩ := N3.out.cell 0 _ rfl; obtain ⟨q1, _⟩ := N3.out.cell 1 _ rfl; obtain ⟨q2, _⟩ := N3.out.cell 2 _ rfl; obtain ⟨q3, _⟩ := N3.out.cell 3 _ rfl; obtain ⟨q4, _⟩ := N3.out.cell 4 _ rfl; obtain ⟨q5, _⟩ := N3.out.cell 5 _ rfl; have X3 := Lib.hid (bl_trans X2.out hb); clear hb))
  go_wp2_with (go_at_call 9; ((with_reducible refine (KB1.out _ X3.out (Q1.out.below Y3.out) (Q2.out.below Y3.out)).mono ?_); rintro e w4 ⟨rfl, hb⟩; have G4 := Lib.hid (G3.out.below hb); have F4 := Lib.hid (F3.out.below hb); have Y4 := Lib.hid (bl_trans Y3.out hb); have N4 := Lib.hid (N3.out.below hb); clear q0 q1 q2 q3 q4 q5; obtain ⟨q0, _⟩ := N4.out.cell 0 _ rfl; obtain ⟨q1, _⟩ := N4.out.cell 1 _ rfl; obtain ⟨q2, _⟩ := N4.out.cell 2 _ rfl; obtain ⟨q3, _⟩ := N4.out.cell 3 _ rfl; obtain ⟨q4, _⟩ := N4.out.cell 4 _ rfl; obtain ⟨q5, _⟩ := N4.out.cell 5 _ rfl; have X4 := Lib.hid (bl_trans X3.out hb); clear hb))
  go_wp2_with (go_at_call 10; ((with_reducible refine (KB2.out _ (Q1.out.below Y4.out) (Q2.out.below Y4.out)).mono ?_); rintro e w5 ⟨rfl, hb⟩; have G5 := Lib.hid (G4.out.below hb); have F5 := Lib.hid (F4.out.below hb); have Y5 := Lib.hid (bl_trans Y4.out hb); have N5 := Lib.hid (N4.out.below hb); clear q0 q1 q2 q3 q4 q5; obtain ⟨q0, _⟩ := N5.out.cell 0 _ rfl; obtain ⟨q1, _⟩ := N5.out.cell 1 _ rfl; obtain ⟨q2, _⟩ := N5.out.cell 2 _ rfl; obtain ⟨q3, _⟩ := N5.out.cell 3 _ rfl; obtain ⟨q4, _⟩ := N5.out.cell 4 _ rfl; obtain ⟨q5, _⟩ := N5.out.cell 5 _ rfl; have X5 := Lib.hid (bl_trans X4.out hb); clear hb))
  go_wp2_with (go_at_call 11; ((with_reducible refine (KC1.out _ X5.out (Q1.out.below Y5.out) (Q2.out.below Y5.out)).mono ?_); rintro e w6 ⟨rfl, hb⟩; have G6 := Lib.hid (G5.out.below hb); have F6 := Lib.hid (F5.out.below hb); have Y6 := Lib.hid (bl_trans Y5.out hb); have N6 := Lib.hid (N5.out.below hb); clear q0 q1 q2 q3 q4 q5; obtain ⟨q0, _⟩ := N6.out.cell 0 _ rfl; obtain ⟨q1, _⟩ := N6.out.cell 1 _ rfl; obtain ⟨q2, _⟩ := N6.out.cell 2 _ rfl; obtain ⟨q3, _⟩ := N6.out.cell 3 _ rfl; obtain ⟨q4, _⟩ := N6.out.cell 4 _ rfl; obtain ⟨q5, _⟩ := N6.out.cell 5 _ rfl; have X6 := Lib.hid (bl_trans X5.out hb); clear hb))
  go_wp2_with (go_at_call 12; ((with_reducible refine (KC2.out _ (Q1.out.below Y6.out) (Q2.out.below Y6.out)).mono ?_); rintro e w7 ⟨rfl, hb⟩; have G7 := Lib.hid (G6.out.below hb); have F7 := Lib.hid (F6.out.below hb); have Y7 := Lib.hid (bl_trans Y6.out hb); have N7 := Lib.hid (N6.out.below hb); clear q0 q1 q2 q3 q4 q5; obtain ⟨q0, _⟩ := N7.out.cell 0 _ rfl; obtain ⟨q1, _⟩ := N7.out.cell 1 _ rfl; obtain ⟨q2, _⟩ := N7.out.cell 2 _ rfl; obtain ⟨q3, _⟩ := N7.out.cell 3 _ rfl; obtain ⟨q4, _⟩ := N7.out.cell 4 _ rfl; obtain ⟨q5, _⟩ := N7.out.cell 5 _ rfl; have X7 := Lib.hid (bl_trans X6.out hb); clear hb))
  clear KA1 KA2 KB1 KB2 KC1 KC2
  by_cases h2 : k2 = 0
  · subst h2
    obtain ⟨hk1, hhv⟩ := hHV.out rfl
    subst hk1
    have KV := Lib.hid hhv
    clear hhv hHV
    by_cases h3 : k3 = 0
    · subst h3
      by_cases hl3 : lo = 3
      · subst hl3
        go_wp2_with (go_at_call 13; ((with_reducible refine (likeInts_same A4 A5 c4 c5 zs' _ F7.out.rd G7.out.rd hzl).mono ?_); rintro e w8 ⟨rfl, hb⟩; have G8 := Lib.hid (G7.out.below hb); have F8 := Lib.hid (F7.out.below hb); have Y8 := Lib.hid (bl_trans Y7.out hb); have N8 := Lib.hid (N7.out.below hb); clear q0 q1 q2 q3 q4 q5; obtain ⟨q0, _⟩ := N8.out.cell 0 _ rfl; obtain ⟨q1, _⟩ := N8.out.cell 1 _ rfl; obtain ⟨q2, _⟩ := N8.out.cell 2 _ rfl; obtain ⟨q3, _⟩ := N8.out.cell 3 _ rfl; obtain ⟨q4, _⟩ := N8.out.cell 4 _ rfl; obtain ⟨q5, _⟩ := N8.out.cell 5 _ rfl; have X8 := Lib.hid (bl_trans X7.out hb); clear hb))
        go_wp2_with (go_at_call 14; ((with_reducible refine (KV.out _ _ _ X8.out F8.out.rd).mono ?_); rintro e w9 ⟨rfl, hb⟩; have Y9 := Lib.hid (bl_trans Y8.out hb); have N9 := Lib.hid (N8.out.below hb); clear q0 q1 q2 q3 q4 q5; obtain ⟨q0, _⟩ := N9.out.cell 0 _ rfl; obtain ⟨q1, _⟩ := N9.out.cell 1 _ rfl; obtain ⟨q2, _⟩ := N9.out.cell 2 _ rfl; obtain ⟨q3, _⟩ := N9.out.cell 3 _ rfl; obtain ⟨q4, _⟩ := N9.out.cell 4 _ rfl; obtain ⟨q5, _⟩ := N9.out.cell 5 _ rfl; have X9 := Lib.hid (bl_trans X8.out hb); clear hb))
        go_ret
        exact ⟨rfl, X9.out⟩
      · have hd3 : (lo == 3) = false := by simpa using hl3
        have KI := Lib.hid (KH.out rfl hl3)
        obtain ⟨hav, hrc⟩ := hAV.out rfl hl3
        have HAV := Lib.hid hav
        have HL := Lib.hid (hrw.out rfl hl3)
        have HRC := Lib.hid hrc
        clear KH hAV hrw hav hrc
        go_wp2_with (go_at_call 13; ((with_reducible refine (likeInts_same A4 A5 c4 c5 zs' _ F7.out.rd G7.out.rd hzl).mono ?_); rintro e w8 ⟨rfl, hb⟩; have G8 := Lib.hid (G7.out.below hb); have F8 := Lib.hid (F7.out.below hb); have Y8 := Lib.hid (bl_trans Y7.out hb); have N8 := Lib.hid (N7.out.below hb); clear q0 q1 q2 q3 q4 q5; obtain ⟨q0, _⟩ := N8.out.cell 0 _ rfl; obtain ⟨q1, _⟩ := N8.out.cell 1 _ rfl; obtain ⟨q2, _⟩ := N8.out.cell 2 _ rfl; obtain ⟨q3, _⟩ := N8.out.cell 3 _ rfl; obtain ⟨q4, _⟩ := N8.out.cell 4 _ rfl; obtain ⟨q5, _⟩ := N8.out.cell 5 _ rfl; have X8 := Lib.hid (bl_trans X7.out hb); clear hb))
        go_wp2_with (go_at_call 14; ((with_reducible refine (KV.out _ _ _ X8.out F8.out.rd).mono ?_); rintro e w9 ⟨rfl, hb⟩; have Y9 := Lib.hid (bl_trans Y8.out hb); have N9 := Lib.hid (N8.out.below hb); clear q0 q1 q2 q3 q4 q5; obtain ⟨q0, _⟩ := N9.out.cell 0 _ rfl; obtain ⟨q1, _⟩ := N9.out.cell 1 _ rfl; obtain ⟨q2, _⟩ := N9.out.cell 2 _ rfl; obtain ⟨q3, _⟩ := N9.out.cell 3 _ rfl; obtain ⟨q4, _⟩ := N9.out.cell 4 _ rfl; obtain ⟨q5, _⟩ := N9.out.cell 5 _ rfl; have X9 := Lib.hid (bl_trans X8.out hb); clear hb))
        go_wp2_with (go_at_call 15; ((with_reducible refine (KI.out _ (Q1.out.below Y9.out) (Q2.out.below Y9.out)).mono ?_); rintro e w20 ⟨A6, c6, AA, CC, rfl, hf, hb⟩; have FM := Lib.hid hf; have X20 := Lib.hid (bl_trans X9.out hb); clear hf hb q0 q1 q2 q3 q4 q5))
        go_loopw [22, 23] (fun r i wr => ∃ p : Nat, p ≤ H ∧ i = .int .i64 p ∧ r = .bool (rch V x3 p) ∧ Hid (Below w20.heap.size w20 wr)) (fun _ i _ => H - (intOf i).toNat)
        case atStart => exact ⟨0, by omega, rfl, rfl, Lib.hid (bl_refl _)⟩
        case round =>
          obtain ⟨p, hp, rfl, rfl, hB⟩ := hrel
          by_cases hlt : p < H
          · have hlt' : (p : Int) < H := by omega
            obtain ⟨g, o, eg, hck⟩ := FM.out.at_ hB.out p hlt
            cases eg
            rw [HL.out p hlt] at hck
            obtain ⟨hle, hk⟩ := HAV.out p hlt
            have K1 := Lib.hid (hk (AA p) (CC p) wr (((FM.out.row p hlt).below hB.out).rd))
            have ER : Hid (rch V x3 (p + 1) = (rch V x3 p || decide (V p = x3))) := Lib.hid rfl
            have hg : decide (V p < x3) = false := decide_eq_false (by omega)
            clear hk
            generalize rch V x3 p = rb at *
            generalize V p = v at *
            cases rb with
            | true =>
              go_wp2_with (go_at_call 16; refine K1.out.mono ?_; rintro e w21 ⟨rfl, hb⟩; have HB := Lib.hid (bl_trans hB.out hb); clear hb)
              go_roundw
              case rel => exact ⟨p + 1, by omega, by go_num, by rw [ER.out]; rfl, HB⟩
              case measure => simp [intOf]; omega
            | false =>
              go_wp2_with (go_at_call 16; refine K1.out.mono ?_; rintro e w21 ⟨rfl, hb⟩; have HB := Lib.hid (bl_trans hB.out hb); clear hb)
              go_roundw
              case rel => exact ⟨p + 1, by omega, by go_num, by rw [ER.out, Bool.false_or, Bool.beq_eq_decide_eq], HB⟩
              case measure => simp [intOf]; omega
          · obtain rfl : p = H := by omega
            rw [HRC.out]
            go_wp2_with fail
            go_ret
            exact ⟨rfl, bl_trans X20.out hB.out⟩
    · have hk3 : (k3 == 0) = false := by simpa using h3
      go_wp2_with (go_at_call 13; ((with_reducible refine (likeInts_same A4 A5 c4 c5 zs' _ F7.out.rd G7.out.rd hzl).mono ?_); rintro e w8 ⟨rfl, hb⟩; have G8 := Lib.hid (G7.out.below hb); have F8 := Lib.hid (F7.out.below hb); have Y8 := Lib.hid (bl_trans Y7.out hb); have N8 := Lib.hid (N7.out.below hb); clear q0 q1 q2 q3 q4 q5; obtain ⟨q0, _⟩ := N8.out.cell 0 _ rfl; obtain ⟨q1, _⟩ := N8.out.cell 1 _ rfl; obtain ⟨q2, _⟩ := N8.out.cell 2 _ rfl; obtain ⟨q3, _⟩ := N8.out.cell 3 _ rfl; obtain ⟨q4, _⟩ := N8.out.cell 4 _ rfl; obtain ⟨q5, _⟩ := N8.out.cell 5 _ rfl; have X8 := Lib.hid (bl_trans X7.out hb); clear hb))
      go_wp2_with (go_at_call 14; ((with_reducible refine (KV.out _ _ _ X8.out F8.out.rd).mono ?_); rintro e w9 ⟨rfl, hb⟩; have Y9 := Lib.hid (bl_trans Y8.out hb); have N9 := Lib.hid (N8.out.below hb); clear q0 q1 q2 q3 q4 q5; obtain ⟨q0, _⟩ := N9.out.cell 0 _ rfl; obtain ⟨q1, _⟩ := N9.out.cell 1 _ rfl; obtain ⟨q2, _⟩ := N9.out.cell 2 _ rfl; obtain ⟨q3, _⟩ := N9.out.cell 3 _ rfl; obtain ⟨q4, _⟩ := N9.out.cell 4 _ rfl; obtain ⟨q5, _⟩ := N9.out.cell 5 _ rfl; have X9 := Lib.hid (bl_trans X8.out hb); clear hb))
      go_ret
      exact ⟨rfl, X9.out⟩
  · have hk2 : (k2 == 0) = false := by simpa using h2
    by_cases h3 : k3 = 0
    · subst h3
      by_cases hl3 : lo = 3
      · subst hl3
        go_wp2_with (go_at_call 13; ((with_reducible refine (likeInts_same A4 A5 c4 c5 zs' _ F7.out.rd G7.out.rd hzl).mono ?_); rintro e w8 ⟨rfl, hb⟩; have G8 := Lib.hid (G7.out.below hb); have F8 := Lib.hid (F7.out.below hb); have Y8 := Lib.hid (bl_trans Y7.out hb); have N8 := Lib.hid (N7.out.below hb); clear q0 q1 q2 q3 q4 q5; obtain ⟨q0, _⟩ := N8.out.cell 0 _ rfl; obtain ⟨q1, _⟩ := N8.out.cell 1 _ rfl; obtain ⟨q2, _⟩ := N8.out.cell 2 _ rfl; obtain ⟨q3, _⟩ := N8.out.cell 3 _ rfl; obtain ⟨q4, _⟩ := N8.out.cell 4 _ rfl; obtain ⟨q5, _⟩ := N8.out.cell 5 _ rfl; have X8 := Lib.hid (bl_trans X7.out hb); clear hb))
        go_ret
        exact ⟨rfl, X8.out⟩
      · have hd3 : (lo == 3) = false := by simpa using hl3
        have KI := Lib.hid (KH.out rfl hl3)
        obtain ⟨hav, hrc⟩ := hAV.out rfl hl3
        have HAV := Lib.hid hav
        have HL := Lib.hid (hrw.out rfl hl3)
        have HRC := Lib.hid hrc
        clear KH hAV hrw hav hrc
        go_wp2_with (go_at_call 13; ((with_reducible refine (likeInts_same A4 A5 c4 c5 zs' _ F7.out.rd G7.out.rd hzl).mono ?_); rintro e w8 ⟨rfl, hb⟩; have G8 := Lib.hid (G7.out.below hb); have F8 := Lib.hid (F7.out.below hb); have Y8 := Lib.hid (bl_trans Y7.out hb); have N8 := Lib.hid (N7.out.below hb); clear q0 q1 q2 q3 q4 q5; obtain ⟨q0, _⟩ := N8.out.cell 0 _ rfl; obtain ⟨q1, _⟩ := N8.out.cell 1 _ rfl; obtain ⟨q2, _⟩ := N8.out.cell 2 _ rfl; obtain ⟨q3, _⟩ := N8.out.cell 3 _ rfl; obtain ⟨q4, _⟩ := N8.out.cell 4 _ rfl; obtain ⟨q5, _⟩ := N8.out.cell 5 _ rfl; have X8 := Lib.hid (bl_trans X7.out hb); clear hb))
        go_wp2_with (go_at_call 15; ((with_reducible refine (KI.out _ (Q1.out.below Y8.out) (Q2.out.below Y8.out)).mono ?_); rintro e w20 ⟨A6, c6, AA, CC, rfl, hf, hb⟩; have FM := Lib.hid hf; have X20 := Lib.hid (bl_trans X8.out hb); clear hf hb q0 q1 q2 q3 q4 q5))
        go_loopw [22, 23] (fun r i wr => ∃ p : Nat, p ≤ H ∧ i = .int .i64 p ∧ r = .bool (rch V x3 p) ∧ Hid (Below w20.heap.size w20 wr)) (fun _ i _ => H - (intOf i).toNat)
        case atStart => exact ⟨0, by omega, rfl, rfl, Lib.hid (bl_refl _)⟩
        case round =>
          obtain ⟨p, hp, rfl, rfl, hB⟩ := hrel
          by_cases hlt : p < H
          · have hlt' : (p : Int) < H := by omega
            obtain ⟨g, o, eg, hck⟩ := FM.out.at_ hB.out p hlt
            cases eg
            rw [HL.out p hlt] at hck
            obtain ⟨hle, hk⟩ := HAV.out p hlt
            have K1 := Lib.hid (hk (AA p) (CC p) wr (((FM.out.row p hlt).below hB.out).rd))
            have ER : Hid (rch V x3 (p + 1) = (rch V x3 p || decide (V p = x3))) := Lib.hid rfl
            have hg : decide (V p < x3) = false := decide_eq_false (by omega)
            clear hk
            generalize rch V x3 p = rb at *
            generalize V p = v at *
            cases rb with
            | true =>
              go_wp2_with (go_at_call 16; refine K1.out.mono ?_; rintro e w21 ⟨rfl, hb⟩; have HB := Lib.hid (bl_trans hB.out hb); clear hb)
              go_roundw
              case rel => exact ⟨p + 1, by omega, by go_num, by rw [ER.out]; rfl, HB⟩
              case measure => simp [intOf]; omega
            | false =>
              go_wp2_with (go_at_call 16; refine K1.out.mono ?_; rintro e w21 ⟨rfl, hb⟩; have HB := Lib.hid (bl_trans hB.out hb); clear hb)
              go_roundw
              case rel => exact ⟨p + 1, by omega, by go_num, by rw [ER.out, Bool.false_or, Bool.beq_eq_decide_eq], HB⟩
              case measure => simp [intOf]; omega
          · obtain rfl : p = H := by omega
            rw [HRC.out]
            go_wp2_with fail
            go_ret
            exact ⟨rfl, bl_trans X20.out hB.out⟩
    · have hk3 : (k3 == 0) = false := by simpa using h3
      go_wp2_with (go_at_call 13; ((with_reducible refine (likeInts_same A4 A5 c4 c5 zs' _ F7.out.rd G7.out.rd hzl).mono ?_); rintro e w8 ⟨rfl, hb⟩; have G8 := Lib.hid (G7.out.below hb); have F8 := Lib.hid (F7.out.below hb); have Y8 := Lib.hid (bl_trans Y7.out hb); have N8 := Lib.hid (N7.out.below hb); clear q0 q1 q2 q3 q4 q5; obtain ⟨q0, _⟩ := N8.out.cell 0 _ rfl; obtain ⟨q1, _⟩ := N8.out.cell 1 _ rfl; obtain ⟨q2, _⟩ := N8.out.cell 2 _ rfl; obtain ⟨q3, _⟩ := N8.out.cell 3 _ rfl; obtain ⟨q4, _⟩ := N8.out.cell 4 _ rfl; obtain ⟨q5, _⟩ := N8.out.cell 5 _ rfl; have X8 := Lib.hid (bl_trans X7.out hb); clear hb))
      go_ret
      exact ⟨rfl, X8.out⟩

set_option maxRecDepth 100000 in
set_option maxHeartbeats 400000 in
theorem walkVV_big (a : Option Addr) (L c : Nat) (w : World) (hm : L ≤ maxLen) (h : 4096 < L) :
    Calls Tryz.prog 3 #[.slice a L c] w (Fresh (.bool true) w) := by
  unfold maxLen at hm
  go_enter Tryz.func3, Tryz.ntmps3
  go_wp2_with (go_at_call 5; refine (big_yes _ _ _ _ h (by omega)).mono ?_; rintro e w0 ⟨rfl, rfl⟩)
  go_ret
  exact ⟨rfl, bl_refl _⟩
theorem walkVV (a : Option Addr) (L c : Nat) (zs : Nat → Int) (w : World) (HT : Hid (Low w.heap.size w)) (hm : L ≤ maxLen) (hc : CodeIn w a L zs) :
    Calls Tryz.prog 3 #[.slice a L c] w (Fresh (.bool true) w) := by
  by_cases h : L ≤ 4096
  · exact walkVV_in a L c zs w HT h hc
  · exact walkVV_big a L c w hm (by omega)

theorem fnVariantValues_met (os : Os) (args : Array Value) : laidMetH Tryz.prog Rows.fnVariantValuesRow.laid ((World.doorLaid Tryz.prog 400 os).forCall (fun _ _ => 0) ⟨#[], args, []⟩).memory :=
  laidMetH_of_parts3 (fuel := 8) (laidMet_of_run' 8 (by kernel_rfl) (by kernel_rfl)) (by kernel_rfl) (by kernel_rfl)

set_option maxRecDepth 100000 in
theorem fnVariantValues_lifted (os : Os) (started : os.Started) (H : Type) (enc : TypeId × Value → H) :
    ReturnsInHanded {} Tryz.checked os 3 .any (fun w args => (Rows.fnVariantValuesSpec.pre enc Tryz.prog Tryz.f3 [] false w args ∧ laidMetH Tryz.prog Rows.fnVariantValuesRow.laid w) ∧ sizedMet enc Tryz.prog Tryz.f3 (OpenSpec.ofChange Rows.fnVariantValuesSpec) false w args)
      (Rows.fnVariantValuesSpec.post enc Tryz.prog Tryz.f3 false true false false) := by
  refine law_lifted_vars started (by kernel_rfl) Tryz.func3 (by kernel_rfl) (by kernel_rfl) (fun ds gs h hg => ?_) ?_
    (ChangeSpec.witness_shaped (enc := enc) (C := Tryz.checked) (os := os) (X := fun w _ => laidMetH Tryz.prog Rows.fnVariantValuesRow.laid w) false (World.doorLaid Tryz.prog 400 os) #[.slice none 0 0] 8 rfl (World.shaped_of_RefB (by kernel_rfl) (by kernel_rfl)) (by kernel_rfl) (by kernel_rfl) (by kernel_rfl) (fnVariantValues_met os _)) ?_
  · match ds, h, gs, hg with
    | [d0], _, [g0], _ => rfl
  · rw [Tryz.params3]
    intro t ht
    obtain rfl : t = 22 := by simpa using ht
    exact ⟨by kernel_rfl, of_decide_eq_true (by kernel_rfl)⟩
  · intro W base args ds ps hval hA hL hSh
    rw [Tryz.params3] at hA hval
    obtain ⟨v0, d0, rfl, rfl, h0⟩ := trodAll_one hA
    obtain ⟨A0, L0, c0, zs0, rfl, m0, r0⟩ := open_code (hval 0 22 v0 rfl rfl) h0
    rw [MakeChecks.laidMetH_plain _ _ _ (by kernel_rfl)] at hL
    exact walkVV A0 L0 c0 zs0 W (Lib.hid (low_of hL)) m0 r0

theorem fnVariantValues_holds : Rows.FnVariantValuesSaid :=
  OpenClaim.holds_of_wide 3 Tryz.f3 rfl rfl rfl rfl rfl rfl rfl ⟨rfl, rfl, rfl, rfl, rfl⟩ rfl rfl rfl rfl rfl (by kernel_rfl) Tryz.func3 (by kernel_rfl)
    (of_decide_eq_true (by kernel_rfl)) (by unfold Func.isWrapper; first | (rw [if_pos (by decide +kernel)]; kernel_rfl) | (rw [if_neg (by decide +kernel)]; exact ⟨rfl, rfl⟩))
    (fun os started H enc _ => fnVariantValues_lifted os started H enc)

/-- The tied card: The best hand has the value, and no other hand a better one, for every code. -/
theorem fnVariantValues_card : Rows.FnVariantValuesCardSaid :=
  Claim7.holds_tied_plain_at .later [] [.data] true (true, "8ca721143568d16c11eb33eae4a3199461e9e4f7424bafd2c736627e202f11b7") false
    fnVariantValues_holds (fun _ h => by cases h) (by kernel_rfl) (fun _ h => by cases h) fnVariantValues_row_tie rfl ⟨rfl, rfl⟩ (by kernel_rfl) rfl
    (fun f fn hf hfn => by
      obtain rfl : f = 3 := Option.some.inj ((show Tryz.prog.funcNamed "loop.example/g00910/laws.FnVariantValues" = some 3 by kernel_rfl).symm.trans hf) |>.symm
      obtain rfl : fn = Tryz.f3 := (Option.some.inj (Tryz.func3.symm.trans hfn)).symm
      exact ⟨by kernel_rfl, fun j t ht => by
        rw [Tryz.params3] at ht
        have hm : t ∈ [22] := by simpa using Array.mem_of_getElem? ht
        have hall : ([22].all fun u => !Tryz.prog.wantsStandIn u) = true := by kernel_rfl
        exact (show Tryz.prog.wantsStandIn t = false by simpa using List.all_eq_true.1 hall t hm)⟩)
    (by kernel_rfl)

end Go.Proofs.YtlpkaflmhdgmmaaGreatDoor
