/-
  BestHandIn of the model.
-/
import Derived.Test.YtlpkaflmhdgmmaaGreatDoorBestG
import Derived.Test.YtlpkaflmhdgmmaaGreatDoorSpecHands6
import Derived.Test.YtlpkaflmhdgmmaaGreatDoorSpecCode6
namespace Go.Proofs.YtlpkaflmhdgmmaaGreatDoor
open Go.RowKit
set_option linter.unusedVariables false

set_option maxRecDepth 100000 in
set_option maxHeartbeats 4000000 in
theorem specBest_hi (l m : Nat) (lo : Int) (A : Option Addr) (c : Nat) (hs : List Int) (A2 : Option Addr) (c2 : Nat) (bs : List Int) (L : List (List Int)) (ix : Nat) (hix : ix < L.length) (x : Int) (w : World)
    (KC : Hid (∀ W, Below w.heap.size w W → Calls Tryz.prog 31 #[vV (hs.length : Int) l m (bs.length : Int) true lo, .slice A hs.length c, .slice A2 bs.length c2] W (Fresh (.int .i64 0) W)))
    (KH : Hid (∀ W, Below w.heap.size w W → Calls Tryz.prog 32 #[vV (hs.length : Int) l m (bs.length : Int) true lo, .slice A hs.length c, .slice A2 bs.length c2] W (fun e w' => ∃ A c AA CC, e = .returned (.slice A L.length c) ∧ Fam w' W.heap.size A L.length (fun h => L.getD h []) AA CC ∧ Below W.heap.size W w')))
    (KT : Hid (∀ (A5 : Option Addr) (c5 : Nat) (AA : Nat → Option Addr) (CC : Nat → Nat) (n : Nat) (w2 : World), Fam w2 n A5 L.length (fun h => L.getD h []) AA CC → Calls Tryz.prog 33 #[.slice A5 L.length c5] w2 (Fresh (.tuple #[.int .i64 (ix : Nat), .int .i64 x]) w2))) :
    Calls Tryz.prog 8 #[vV (hs.length : Int) l m (bs.length : Int) true lo, .slice A hs.length c, .slice A2 bs.length c2] w (NewRC (L.getD ix []) 0 w) := by
  have hix' : (ix : Int) < (L.length : Int) := by omega
  have N0 := Lib.hid (blk_new w 25 [.int .i64 (hs.length : Int), .int .i64 (l : Int), .int .i64 (m : Int), .int .i64 (bs.length : Int), .bool true, .int .i64 lo])
  have B0 := Lib.hid (bl_alloc (bl_refl w) (.cells ([.int .i64 (hs.length : Int), .int .i64 (l : Int), .int .i64 (m : Int), .int .i64 (bs.length : Int), .bool true, .int .i64 lo] : List Value).toArray 25))
  unfold vV at *
  go_enter Tryz.func8, Tryz.ntmps8
  go_wp2_with (first
    | (go_at_call 31; refine (KC.out _ B0.out).mono ?_; rintro e w1 ⟨rfl, hb1⟩; have N1 := Lib.hid (N0.out.below hb1); have B1 := Lib.hid (bl_trans B0.out hb1); clear hb1; obtain ⟨q0, _⟩ := N1.out.cell 0 _ rfl; obtain ⟨q1, _⟩ := N1.out.cell 1 _ rfl; obtain ⟨q2, _⟩ := N1.out.cell 2 _ rfl; obtain ⟨q3, _⟩ := N1.out.cell 3 _ rfl; obtain ⟨q4, _⟩ := N1.out.cell 4 _ rfl; obtain ⟨q5, _⟩ := N1.out.cell 5 _ rfl)
    | (go_at_call 32; refine (KH.out _ B1.out).mono ?_; rintro e w2 ⟨A5, c5, AA, CC, rfl, hf, hb2⟩; have F2 := Lib.hid hf; have N2 := Lib.hid (N1.out.below hb2); have B2 := Lib.hid (bl_trans B1.out hb2); clear hf hb2; obtain ⟨p0, _⟩ := N2.out.cell 0 _ rfl; obtain ⟨p1, _⟩ := N2.out.cell 1 _ rfl; obtain ⟨p2, _⟩ := N2.out.cell 2 _ rfl; obtain ⟨p3, _⟩ := N2.out.cell 3 _ rfl; obtain ⟨p4, _⟩ := N2.out.cell 4 _ rfl; obtain ⟨p5, _⟩ := N2.out.cell 5 _ rfl)
    | (go_at_call 33; refine (KT.out _ _ _ _ _ _ F2.out).mono ?_; rintro e w3 ⟨rfl, hb3⟩; obtain ⟨g5, o5, eg5, hck0⟩ := F2.out.at_ hb3 ix hix; cases eg5; obtain ⟨nn, EN, hck⟩ : ∃ nn, Hid (nn = (L.getD ix []).length) ∧ w3.cell? ⟨g5, o5 + ix, none⟩ = some (.slice (AA ix) nn (CC ix)) := ⟨_, Lib.hid rfl, hck0⟩; clear hck0; have lt5 := World.block_lt_of_cell? _ _ hck; have F3 := Lib.hid (F2.out.below hb3); have N3 := Lib.hid (N2.out.below hb3); have B3 := Lib.hid (bl_trans B2.out hb3); clear hb3; obtain ⟨r0, _⟩ := N3.out.cell 0 _ rfl; obtain ⟨r1, _⟩ := N3.out.cell 1 _ rfl; obtain ⟨r2, _⟩ := N3.out.cell 2 _ rfl; obtain ⟨r3, _⟩ := N3.out.cell 3 _ rfl; obtain ⟨r4, _⟩ := N3.out.cell 4 _ rfl; obtain ⟨r5, _⟩ := N3.out.cell 5 _ rfl))
  go_ret2
  exact ⟨AA ix, CC ix, by rw [← EN.out]; rfl, (F3.out.row ix hix).less B1.out.size, B3.out⟩
set_option maxRecDepth 100000 in
set_option maxHeartbeats 4000000 in
theorem specBest_lo (l m : Nat) (lo : Int) (A : Option Addr) (c : Nat) (hs : List Int) (A2 : Option Addr) (c2 : Nat) (bs : List Int) (L : List (List Int)) (ix : Nat) (hix : ix < L.length) (x : Int) (w : World)
    (KC : Hid (∀ W, Below w.heap.size w W → Calls Tryz.prog 31 #[vV (hs.length : Int) l m (bs.length : Int) false lo, .slice A hs.length c, .slice A2 bs.length c2] W (Fresh (.int .i64 0) W)))
    (KH : Hid (∀ W, Below w.heap.size w W → Calls Tryz.prog 32 #[vV (hs.length : Int) l m (bs.length : Int) false lo, .slice A hs.length c, .slice A2 bs.length c2] W (fun e w' => ∃ A c AA CC, e = .returned (.slice A L.length c) ∧ Fam w' W.heap.size A L.length (fun h => L.getD h []) AA CC ∧ Below W.heap.size W w')))
    (KT : Hid (∀ (A5 : Option Addr) (c5 : Nat) (AA : Nat → Option Addr) (CC : Nat → Nat) (n : Nat) (w2 : World), Fam w2 n A5 L.length (fun h => L.getD h []) AA CC → Calls Tryz.prog 34 #[vV (hs.length : Int) l m (bs.length : Int) false lo, .slice A5 L.length c5] w2 (Fresh (.tuple #[.int .i64 (ix : Nat), .int .i64 x]) w2)))
    (hok : countsB lo x = true) :
    Calls Tryz.prog 8 #[vV (hs.length : Int) l m (bs.length : Int) false lo, .slice A hs.length c, .slice A2 bs.length c2] w (NewRC (L.getD ix []) 0 w) := by
  have KQ := Lib.hid (fun (W : World) => l06Counts_any (hs.length : Int) l m (bs.length : Int) false lo x W)
  rw [hok] at KQ
  have hix' : (ix : Int) < (L.length : Int) := by omega
  have N0 := Lib.hid (blk_new w 25 [.int .i64 (hs.length : Int), .int .i64 (l : Int), .int .i64 (m : Int), .int .i64 (bs.length : Int), .bool false, .int .i64 lo])
  have B0 := Lib.hid (bl_alloc (bl_refl w) (.cells ([.int .i64 (hs.length : Int), .int .i64 (l : Int), .int .i64 (m : Int), .int .i64 (bs.length : Int), .bool false, .int .i64 lo] : List Value).toArray 25))
  unfold vV at *
  go_enter Tryz.func8, Tryz.ntmps8
  go_wp2_with (first
    | (go_at_call 31; refine (KC.out _ B0.out).mono ?_; rintro e w1 ⟨rfl, hb1⟩; have N1 := Lib.hid (N0.out.below hb1); have B1 := Lib.hid (bl_trans B0.out hb1); clear hb1; obtain ⟨q0, _⟩ := N1.out.cell 0 _ rfl; obtain ⟨q1, _⟩ := N1.out.cell 1 _ rfl; obtain ⟨q2, _⟩ := N1.out.cell 2 _ rfl; obtain ⟨q3, _⟩ := N1.out.cell 3 _ rfl; obtain ⟨q4, _⟩ := N1.out.cell 4 _ rfl; obtain ⟨q5, _⟩ := N1.out.cell 5 _ rfl)
    | (go_at_call 32; refine (KH.out _ B1.out).mono ?_; rintro e w2 ⟨A5, c5, AA, CC, rfl, hf, hb2⟩; have F2 := Lib.hid hf; have N2 := Lib.hid (N1.out.below hb2); have B2 := Lib.hid (bl_trans B1.out hb2); clear hf hb2; obtain ⟨p0, _⟩ := N2.out.cell 0 _ rfl; obtain ⟨p1, _⟩ := N2.out.cell 1 _ rfl; obtain ⟨p2, _⟩ := N2.out.cell 2 _ rfl; obtain ⟨p3, _⟩ := N2.out.cell 3 _ rfl; obtain ⟨p4, _⟩ := N2.out.cell 4 _ rfl; obtain ⟨p5, _⟩ := N2.out.cell 5 _ rfl)
    | (go_at_call 34; refine (KT.out _ _ _ _ _ _ F2.out).mono ?_; rintro e w3 ⟨rfl, hb3⟩; obtain ⟨g5, o5, eg5, hck0⟩ := F2.out.at_ hb3 ix hix; cases eg5; obtain ⟨nn, EN, hck⟩ : ∃ nn, Hid (nn = (L.getD ix []).length) ∧ w3.cell? ⟨g5, o5 + ix, none⟩ = some (.slice (AA ix) nn (CC ix)) := ⟨_, Lib.hid rfl, hck0⟩; clear hck0; have lt5 := World.block_lt_of_cell? _ _ hck; have F3 := Lib.hid (F2.out.below hb3); have N3 := Lib.hid (N2.out.below hb3); have B3 := Lib.hid (bl_trans B2.out hb3); clear hb3; obtain ⟨r0, _⟩ := N3.out.cell 0 _ rfl; obtain ⟨r1, _⟩ := N3.out.cell 1 _ rfl; obtain ⟨r2, _⟩ := N3.out.cell 2 _ rfl; obtain ⟨r3, _⟩ := N3.out.cell 3 _ rfl; obtain ⟨r4, _⟩ := N3.out.cell 4 _ rfl; obtain ⟨r5, _⟩ := N3.out.cell 5 _ rfl)
    | (go_at_call 35; refine (KQ.out _).mono ?_; rintro e w4 ⟨rfl, hb4⟩; have hck4 := (hb4.cell (p := ⟨g5, o5 + ix, none⟩) lt5).trans hck; have F4 := Lib.hid (F3.out.below hb4); have B4 := Lib.hid (bl_trans B3.out hb4); clear hb4))
  go_ret2
  exact ⟨AA ix, CC ix, by rw [← EN.out]; rfl, (F4.out.row ix hix).less B1.out.size, B4.out⟩
set_option maxRecDepth 100000 in
set_option maxHeartbeats 4000000 in
theorem specBest_no (l m : Nat) (lo : Int) (A : Option Addr) (c : Nat) (hs : List Int) (A2 : Option Addr) (c2 : Nat) (bs : List Int) (L : List (List Int)) (ix : Nat) (hix : ix < L.length) (x : Int) (w : World)
    (KC : Hid (∀ W, Below w.heap.size w W → Calls Tryz.prog 31 #[vV (hs.length : Int) l m (bs.length : Int) false lo, .slice A hs.length c, .slice A2 bs.length c2] W (Fresh (.int .i64 0) W)))
    (KH : Hid (∀ W, Below w.heap.size w W → Calls Tryz.prog 32 #[vV (hs.length : Int) l m (bs.length : Int) false lo, .slice A hs.length c, .slice A2 bs.length c2] W (fun e w' => ∃ A c AA CC, e = .returned (.slice A L.length c) ∧ Fam w' W.heap.size A L.length (fun h => L.getD h []) AA CC ∧ Below W.heap.size W w')))
    (KT : Hid (∀ (A5 : Option Addr) (c5 : Nat) (AA : Nat → Option Addr) (CC : Nat → Nat) (n : Nat) (w2 : World), Fam w2 n A5 L.length (fun h => L.getD h []) AA CC → Calls Tryz.prog 34 #[vV (hs.length : Int) l m (bs.length : Int) false lo, .slice A5 L.length c5] w2 (Fresh (.tuple #[.int .i64 (ix : Nat), .int .i64 x]) w2)))
    (hok : countsB lo x = false) :
    Calls Tryz.prog 8 #[vV (hs.length : Int) l m (bs.length : Int) false lo, .slice A hs.length c, .slice A2 bs.length c2] w (NewRC [] 4 w) := by
  have KQ := Lib.hid (fun (W : World) => l06Counts_any (hs.length : Int) l m (bs.length : Int) false lo x W)
  rw [hok] at KQ
  have hix' : (ix : Int) < (L.length : Int) := by omega
  have N0 := Lib.hid (blk_new w 25 [.int .i64 (hs.length : Int), .int .i64 (l : Int), .int .i64 (m : Int), .int .i64 (bs.length : Int), .bool false, .int .i64 lo])
  have B0 := Lib.hid (bl_alloc (bl_refl w) (.cells ([.int .i64 (hs.length : Int), .int .i64 (l : Int), .int .i64 (m : Int), .int .i64 (bs.length : Int), .bool false, .int .i64 lo] : List Value).toArray 25))
  unfold vV at *
  go_enter Tryz.func8, Tryz.ntmps8
  go_wp2_with (first
    | (go_at_call 31; refine (KC.out _ B0.out).mono ?_; rintro e w1 ⟨rfl, hb1⟩; have N1 := Lib.hid (N0.out.below hb1); have B1 := Lib.hid (bl_trans B0.out hb1); clear hb1; obtain ⟨q0, _⟩ := N1.out.cell 0 _ rfl; obtain ⟨q1, _⟩ := N1.out.cell 1 _ rfl; obtain ⟨q2, _⟩ := N1.out.cell 2 _ rfl; obtain ⟨q3, _⟩ := N1.out.cell 3 _ rfl; obtain ⟨q4, _⟩ := N1.out.cell 4 _ rfl; obtain ⟨q5, _⟩ := N1.out.cell 5 _ rfl)
    | (go_at_call 32; refine (KH.out _ B1.out).mono ?_; rintro e w2 ⟨A5, c5, AA, CC, rfl, hf, hb2⟩; have F2 := Lib.hid hf; have N2 := Lib.hid (N1.out.below hb2); have B2 := Lib.hid (bl_trans B1.out hb2); clear hf hb2; obtain ⟨p0, _⟩ := N2.out.cell 0 _ rfl; obtain ⟨p1, _⟩ := N2.out.cell 1 _ rfl; obtain ⟨p2, _⟩ := N2.out.cell 2 _ rfl; obtain ⟨p3, _⟩ := N2.out.cell 3 _ rfl; obtain ⟨p4, _⟩ := N2.out.cell 4 _ rfl; obtain ⟨p5, _⟩ := N2.out.cell 5 _ rfl)
    | (go_at_call 34; refine (KT.out _ _ _ _ _ _ F2.out).mono ?_; rintro e w3 ⟨rfl, hb3⟩; obtain ⟨g5, o5, eg5, hck0⟩ := F2.out.at_ hb3 ix hix; cases eg5; obtain ⟨nn, EN, hck⟩ : ∃ nn, Hid (nn = (L.getD ix []).length) ∧ w3.cell? ⟨g5, o5 + ix, none⟩ = some (.slice (AA ix) nn (CC ix)) := ⟨_, Lib.hid rfl, hck0⟩; clear hck0; have lt5 := World.block_lt_of_cell? _ _ hck; have F3 := Lib.hid (F2.out.below hb3); have N3 := Lib.hid (N2.out.below hb3); have B3 := Lib.hid (bl_trans B2.out hb3); clear hb3; obtain ⟨r0, _⟩ := N3.out.cell 0 _ rfl; obtain ⟨r1, _⟩ := N3.out.cell 1 _ rfl; obtain ⟨r2, _⟩ := N3.out.cell 2 _ rfl; obtain ⟨r3, _⟩ := N3.out.cell 3 _ rfl; obtain ⟨r4, _⟩ := N3.out.cell 4 _ rfl; obtain ⟨r5, _⟩ := N3.out.cell 5 _ rfl)
    | (go_at_call 35; refine (KQ.out _).mono ?_; rintro e w4 ⟨rfl, hb4⟩; have hck4 := (hb4.cell (p := ⟨g5, o5 + ix, none⟩) lt5).trans hck; have F4 := Lib.hid (F3.out.below hb4); have B4 := Lib.hid (bl_trans B3.out hb4); clear hb4))
  go_ret2
  exact ⟨none, 0, rfl, Row.nil _ _, B4.out⟩
set_option maxRecDepth 100000 in
set_option maxHeartbeats 4000000 in
theorem specBest_yes (l m : Nat) (hi : Bool) (lo : Int) (A : Option Addr) (c : Nat) (hs : List Int) (A2 : Option Addr) (c2 : Nat) (bs : List Int) (w : World) (hcz : codeH (hs.length : Int) l m (bs.length : Int) hi lo hs bs = 0) (hr : Rd w A hs) (hr2 : Rd w A2 bs) (hc : hs.length ≤ c) (hc2 : bs.length ≤ c2) :
    Calls Tryz.prog 8 #[vV (hs.length : Int) l m (bs.length : Int) hi lo, .slice A hs.length c, .slice A2 bs.length c2] w (NewRC (beR (hs.length : Int) l m (bs.length : Int) hi lo hs bs) (beC (hs.length : Int) l m (bs.length : Int) hi lo hs bs) w) := by
  obtain ⟨hvv, _⟩ := code_zero hcz
  have hcc := code_cards hcz
  obtain ⟨⟨f1, f2⟩, ⟨f3, f4⟩, ⟨f5, f6⟩, ⟨f7, f8⟩, f9⟩ := hasCards_iff.1 (isVar_cards hvv)
  have hh : hs.length ≤ 7 := by omega
  have hb7 : bs.length ≤ 7 := by omega
  have hlm : l ≤ m := by omega
  have hm5 : m ≤ 5 := by omega
  have hm64 : i64B (m : Int) := by unfold i64B; omega
  have hpos : 0 < (hRows hs bs l (m + 1 - l)).length := hRows_pos hs bs l m hh hb7 hlm hm5 (by omega) (by omega)
  have hcd := fun k hk => hRows_cards_at hs bs l (m + 1 - l) (by omega) hcc k hk
  obtain ⟨hix, hT, hF⟩ := be_facts hi lo (hRows hs bs l (m + 1 - l)) hpos hcd
  have KC := Lib.hid (fun (W : World) (hb : Below w.heap.size w W) => specCode_any (hs.length : Int) l m (bs.length : Int) hi lo A c hs A2 c2 bs W hm64 (hr.below hb) (hr2.below hb) (by omega) (by omega))
  rw [hcz] at KC
  have KH := Lib.hid (fun (W : World) (hb : Below w.heap.size w W) => specHands_any l m (hs.length : Int) hi lo A c hs A2 c2 bs W hlm hm5 hh hb7 (hr.below hb) (hr2.below hb) hc hc2)
  have HT := hRows_le hs bs l hh hb7 (m + 1 - l) (by omega)
  have HT2 : (m + 1 - l) * 1225 ≤ 6 * 1225 := Nat.mul_le_mul_right _ (by omega)
  have hH : (hRows hs bs l (m + 1 - l)).length ≤ 4000000 := by omega
  unfold HandsFam at KH
  cases hi with
  | true =>
    obtain ⟨e1, e2⟩ := be_yes (hi := true) hcz rfl
    rw [e1, e2]
    exact specBest_hi l m lo A c hs A2 c2 bs (hRows hs bs l (m + 1 - l)) _ hix (topV (fun k => hv ((hRows hs bs l (m + 1 - l)).getD k [])) (hRows hs bs l (m + 1 - l)).length) w KC KH (Lib.hid (fun A5 c5 AA CC n w2 hf => l06High_of A5 c5 n (hRows hs bs l (m + 1 - l)).length (fun h => (hRows hs bs l (m + 1 - l)).getD h []) AA CC (fun k => hv ((hRows hs bs l (m + 1 - l)).getD k [])) w2 hf (fun k hk => (hcd k hk).2) hH
      (fun k hk W hb => l04Value_any (AA k) (CC k) ((hRows hs bs l (m + 1 - l)).getD k []) W ((hf.below hb).row k hk).rd (hcd k hk).2 (hcd k hk).1)))
  | false =>
    have KT : Hid (∀ (A5 : Option Addr) (c5 : Nat) (AA : Nat → Option Addr) (CC : Nat → Nat) (n : Nat) (w2 : World), Fam w2 n A5 (hRows hs bs l (m + 1 - l)).length (fun h => (hRows hs bs l (m + 1 - l)).getD h []) AA CC → Calls Tryz.prog 34 #[vV (hs.length : Int) l m (bs.length : Int) false lo, .slice A5 (hRows hs bs l (m + 1 - l)).length c5] w2 (Fresh (.tuple #[.int .i64 (beI false lo (hRows hs bs l (m + 1 - l)) : Nat), .int .i64 (beV false lo (hRows hs bs l (m + 1 - l)))]) w2)) :=
      Lib.hid (fun A5 c5 AA CC n w2 hf => by
        by_cases hl : lo = 3
        · have el : (fun k => loS lo ((hRows hs bs l (m + 1 - l)).getD k [])) = fun k => duS ((hRows hs bs l (m + 1 - l)).getD k []) := by funext k; unfold loS; rw [if_pos hl]
          have h := l06Low_deu (hs.length : Int) l m (bs.length : Int) false lo hl A5 c5 n (hRows hs bs l (m + 1 - l)).length (fun h => (hRows hs bs l (m + 1 - l)).getD h []) AA CC (fun k => aceS ((hRows hs bs l (m + 1 - l)).getD k [])) (fun k => duS ((hRows hs bs l (m + 1 - l)).getD k [])) w2 hf (fun k hk => (hcd k hk).2) hH
            (fun k hk W hb => l05Ace_any (AA k) (CC k) ((hRows hs bs l (m + 1 - l)).getD k []) W ((hf.below hb).row k hk).rd (hcd k hk).2 (hcd k hk).1) (fun k hk W hb => l05Deuce_any (AA k) (CC k) ((hRows hs bs l (m + 1 - l)).getD k []) W ((hf.below hb).row k hk).rd (hcd k hk).2 (hcd k hk).1)
          rw [← el] at h
          exact h
        · have el : (fun k => loS lo ((hRows hs bs l (m + 1 - l)).getD k [])) = fun k => aceS ((hRows hs bs l (m + 1 - l)).getD k []) := by funext k; unfold loS; rw [if_neg hl]
          have h := l06Low_ace (hs.length : Int) l m (bs.length : Int) false lo hl A5 c5 n (hRows hs bs l (m + 1 - l)).length (fun h => (hRows hs bs l (m + 1 - l)).getD h []) AA CC (fun k => aceS ((hRows hs bs l (m + 1 - l)).getD k [])) (fun k => aceS ((hRows hs bs l (m + 1 - l)).getD k [])) w2 hf (fun k hk => (hcd k hk).2) hH
            (fun k hk W hb => l05Ace_any (AA k) (CC k) ((hRows hs bs l (m + 1 - l)).getD k []) W ((hf.below hb).row k hk).rd (hcd k hk).2 (hcd k hk).1)
          rw [← el] at h
          exact h)
    by_cases hq : countsB lo (beV false lo (hRows hs bs l (m + 1 - l))) = true
    · obtain ⟨e1, e2⟩ := be_yes (hi := false) hcz (by unfold beOk; rw [hq]; rfl)
      rw [e1, e2]
      exact specBest_lo l m lo A c hs A2 c2 bs (hRows hs bs l (m + 1 - l)) _ hix _ w KC KH KT hq
    · have hq' : countsB lo (beV false lo (hRows hs bs l (m + 1 - l))) = false := by simpa using hq
      obtain ⟨e1, e2⟩ := be_no (hi := false) hcz (by unfold beOk; rw [hq']; rfl)
      rw [e1, e2]
      exact specBest_no l m lo A c hs A2 c2 bs (hRows hs bs l (m + 1 - l)) _ hix _ w KC KH KT hq'
set_option maxRecDepth 100000 in
set_option maxHeartbeats 4000000 in
theorem specBest_any (h l m b : Int) (hi : Bool) (lo : Int) (A : Option Addr) (c : Nat) (hs : List Int) (A2 : Option Addr) (c2 : Nat) (bs : List Int) (w : World) (hm64 : i64B m) (hr : Rd w A hs) (hr2 : Rd w A2 bs) (hn : hs.length ≤ 2000000) (hn2 : bs.length ≤ 2000000) (hc : hs.length ≤ c) (hc2 : bs.length ≤ c2) :
    Calls Tryz.prog 8 #[vV h l m b hi lo, .slice A hs.length c, .slice A2 bs.length c2] w (NewRC (beR h l m b hi lo hs bs) (beC h l m b hi lo hs bs) w) := by
  by_cases h0 : codeH h l m b hi lo hs bs = 0
  · obtain ⟨hv, e1, e2⟩ := code_zero h0
    subst e1
    subst e2
    obtain ⟨_, _, ⟨f5, f6⟩, _⟩ := hasCards_iff.1 (isVar_cards hv)
    obtain ⟨l', rfl⟩ := Int.eq_ofNat_of_zero_le f5
    obtain ⟨m', rfl⟩ := Int.eq_ofNat_of_zero_le (Int.le_trans f5 f6)
    exact specBest_yes l' m' hi lo A c hs A2 c2 bs w h0 hr hr2 hc hc2
  · have e : beC h l m b hi lo hs bs = codeH h l m b hi lo hs bs := by unfold beC; rw [if_neg h0]
    have e2 : beR h l m b hi lo hs bs = [] := by unfold beR; rw [e, if_neg h0]
    rw [e, e2]
    have KC := Lib.hid (fun (W : World) (hb : Below w.heap.size w W) => specCode_any h l m b hi lo A c hs A2 c2 bs W hm64 (hr.below hb) (hr2.below hb) hn hn2)
    have B0 := Lib.hid (bl_alloc (bl_refl w) (.cells ([.int .i64 h, .int .i64 l, .int .i64 m, .int .i64 b, .bool hi, .int .i64 lo] : List Value).toArray 25))
    clear e e2
    generalize codeH h l m b hi lo hs bs = k at *
    have hk : (k == 0) = false := by simp [h0]
    clear hr hr2
    unfold vV at *
    go_enter Tryz.func8, Tryz.ntmps8
    go_wp2_with (go_at_call 31; refine (KC.out _ B0.out).mono ?_; rintro e w1 ⟨rfl, hb1⟩; have B1 := Lib.hid (bl_trans B0.out hb1); clear hb1)
    go_ret2
    exact ⟨none, 0, rfl, Row.nil _ _, B1.out⟩
end Go.Proofs.YtlpkaflmhdgmmaaGreatDoor
