/-
  HighIn of both.
-/
import Derived.Test.YtlpkaflmhdgmmaaGreatDoorHighIn6
import Derived.Test.YtlpkaflmhdgmmaaGreatDoorHandsFns
namespace Go.Proofs.YtlpkaflmhdgmmaaGreatDoor
open Go.RowKit
set_option linter.unusedVariables false
attribute [local go_sem] Oper.semAt_some

/-- The high value, and the code. -/
def hiV (l m : Int) (hs bs : List Int) : Int := topV (fun k => hv ((handsH l m hs bs).getD k [])) (handsH l m hs bs).length
def hiC (h l m b : Int) (hi : Bool) (lo : Int) (hs bs : List Int) : Int := if codeH h l m b hi lo hs bs = 0 then (if hi = true then 0 else 5) else codeH h l m b hi lo hs bs
def hiR (h l m b : Int) (hi : Bool) (lo : Int) (hs bs : List Int) : Int := if hiC h l m b hi lo hs bs = 0 then hiV l m hs bs else 0
theorem code_cards {l m : Int} {hi : Bool} {lo : Int} {hs bs : List Int} (h0 : codeH (hs.length : Int) l m (bs.length : Int) hi lo hs bs = 0) : cardsB (hs ++ bs) = true := by
  obtain ⟨hv, _⟩ := code_zero h0
  rw [codeH_cards hv] at h0
  split at h0
  · assumption
  · omega
theorem hiV_nat (l m : Nat) (hs bs : List Int) (hh : hs.length ≤ 7) (hb7 : bs.length ≤ 7) (hlm : l ≤ m) (hm5 : m ≤ 5) (h1 : m ≤ hs.length) (h2 : 5 - m ≤ bs.length) (hc : cardsB (hs ++ bs) = true) :
    mxV (fun k => hv ((hRows hs bs l (m + 1 - l)).getD k [])) (hRows hs bs l (m + 1 - l)).length = hiV l m hs bs := by
  rw [mx_top _ _ (hRows_pos hs bs l m hh hb7 hlm hm5 h1 h2) (fun k hk => by
    obtain ⟨a, b⟩ := hRows_cards_at hs bs l (m + 1 - l) (by omega) hc k hk
    exact (hv_bd _ a b).1)]
  rfl
set_option maxRecDepth 100000 in
set_option maxHeartbeats 4000000 in
theorem implHighIn_yes (l m : Nat) (lo : Int) (A : Option Addr) (c : Nat) (hs : List Int) (A2 : Option Addr) (c2 : Nat) (bs : List Int) (B : Nat) (wt w : World) (ht : Hid (Low B wt)) (hB : Hid (Below B wt w)) (hBw : Hid (B ≤ w.heap.size)) (hcz : codeH (hs.length : Int) l m (bs.length : Int) true lo hs bs = 0) (hr : Rd w A hs) (hr2 : Rd w A2 bs) :
    Calls Tryz.prog 9 #[vV (hs.length : Int) l m (bs.length : Int) true lo, .slice A hs.length c, .slice A2 bs.length c2] w (Fresh (pairV (hiV l m hs bs) 0) w) := by
  obtain ⟨hv, _⟩ := code_zero hcz
  have hcc := code_cards hcz
  obtain ⟨⟨f1, f2⟩, ⟨f3, f4⟩, ⟨f5, f6⟩, ⟨f7, f8⟩, f9⟩ := hasCards_iff.1 (isVar_cards hv)
  have hh : hs.length ≤ 7 := by omega
  have hb7 : bs.length ≤ 7 := by omega
  have hlm : l ≤ m := by omega
  have hm5 : m ≤ 5 := by omega
  have hm64 : i64B (m : Int) := by unfold i64B; omega
  have HR := Lib.hid hr
  have HR2 := Lib.hid hr2
  have KC := Lib.hid (fun (W : World) (hb : Below w.heap.size w W) => codeFor_any (hs.length : Int) l m (bs.length : Int) true lo A c hs A2 c2 bs W hm64 (HR.out.below hb) (HR2.out.below hb) (by omega) (by omega))
  rw [hcz] at KC
  have KO := Lib.hid (fun (W : World) => handsOf_any (hs.length : Int) l m (bs.length : Int) true lo A c hs.length A2 c2 bs.length W)
  have KB := Lib.hid (fun (b1 b2 b3 : Nat) (W : World) (hb : Below w.heap.size w W) h1 h2 h3 => bestValue6_any A c hs A2 c2 bs l m b1 b2 b3 true lo B wt W ht (Lib.hid (hB.out.trans (hb.mono hBw.out))) (Lib.hid (Nat.le_trans hBw.out hb.size)) h1 h2 h3 (HR.out.below hb) (HR2.out.below hb) hh hb7 hlm hm5 hcc)
  rw [hiV_nat l m hs bs hh hb7 hlm hm5 (by omega) (by omega) hcc] at KB
  generalize hiV l m hs bs = x at *
  have N0 := Lib.hid (blk_new w 25 [.int .i64 (hs.length : Int), .int .i64 (l : Int), .int .i64 (m : Int), .int .i64 (bs.length : Int), .bool true, .int .i64 lo])
  have B0 := Lib.hid (bl_alloc (bl_refl w) (.cells ([.int .i64 (hs.length : Int), .int .i64 (l : Int), .int .i64 (m : Int), .int .i64 (bs.length : Int), .bool true, .int .i64 lo] : List Value).toArray 25))
  clear hr hr2 hv hcz hcc f1 f2 f3 f4 f5 f6 f7 f8 f9 hm64
  have KS := Lib.hid highScale_any
  unfold vV at *
  go_enter Tryz.func9, Tryz.ntmps9
  go_wp2_with (go_at_call 24; refine (KC.out _ B0.out).mono ?_; rintro e w1 ⟨rfl, hb1⟩; have HN1 := N0.out.below hb1; have B1 := Lib.hid (bl_trans B0.out hb1); clear hb1; have hz1 := HN1.lt; obtain ⟨q0, _⟩ := HN1.cell 0 _ rfl; obtain ⟨q1, _⟩ := HN1.cell 1 _ rfl; obtain ⟨q2, _⟩ := HN1.cell 2 _ rfl; obtain ⟨q3, _⟩ := HN1.cell 3 _ rfl; obtain ⟨q4, _⟩ := HN1.cell 4 _ rfl; obtain ⟨q5, _⟩ := HN1.cell 5 _ rfl; clear HN1)
  go_region_with ((first
    | (go_at_call 36; refine (KS.out _).mono ?_; rintro e w4 ⟨rfl, hb4⟩; (first | (have p0 := ((bcell hb4).1 w.heap.size 0 (by first | exact hz1 | simpa using hz1)).trans q0; have p1 := ((bcell hb4).1 w.heap.size 1 (by first | exact hz1 | simpa using hz1)).trans q1; have p2 := ((bcell hb4).1 w.heap.size 2 (by first | exact hz1 | simpa using hz1)).trans q2; have p3 := ((bcell hb4).1 w.heap.size 3 (by first | exact hz1 | simpa using hz1)).trans q3; have p4 := ((bcell hb4).1 w.heap.size 4 (by first | exact hz1 | simpa using hz1)).trans q4; have p5 := ((bcell hb4).1 w.heap.size 5 (by first | exact hz1 | simpa using hz1)).trans q5) | skip))
    | (go_at_call 26; refine (KO.out _).mono ?_; rintro e w5 ⟨rfl, v1, v2, v3, hb5⟩)
    | (go_at_call 27; (first | ((with_reducible refine (KB.out _ _ _ _ (bl_trans (bl_trans (bl_drew B1.out) hb4) hb5) v1 v2 v3).mono ?_); rintro e w6 ⟨rfl, hb6⟩; have B6 := Lib.hid (bl_trans (bl_trans (bl_trans (bl_drew B1.out) hb4) hb5) hb6)) | ((with_reducible refine (KB.out _ _ _ _ (bl_trans (bl_trans (bl_drew B1.out) hb5) hb4) (v1.below hb4) (v2.below hb4) (v3.below hb4)).mono ?_); rintro e w6 ⟨rfl, hb6⟩; have B6 := Lib.hid (bl_trans (bl_trans (bl_trans (bl_drew B1.out) hb5) hb4) hb6))))))
  all_goals
    go_wp2_with fail
    go_ret2
    exact ⟨rfl, B6.out⟩
set_option maxRecDepth 100000 in
set_option maxHeartbeats 4000000 in
theorem implHighIn_any (h l m b : Int) (hi : Bool) (lo : Int) (A : Option Addr) (c : Nat) (hs : List Int) (A2 : Option Addr) (c2 : Nat) (bs : List Int) (B : Nat) (wt w : World) (ht : Hid (Low B wt)) (hB : Hid (Below B wt w)) (hBw : Hid (B ≤ w.heap.size)) (hm64 : i64B m) (hr : Rd w A hs) (hr2 : Rd w A2 bs) (hn : hs.length ≤ 2000000) (hn2 : bs.length ≤ 2000000) :
    Calls Tryz.prog 9 #[vV h l m b hi lo, .slice A hs.length c, .slice A2 bs.length c2] w (Fresh (pairV (hiR h l m b hi lo hs bs) (hiC h l m b hi lo hs bs)) w) := by
  by_cases h0 : codeH h l m b hi lo hs bs = 0
  · cases hi with
    | true =>
      obtain ⟨hv, e1, e2⟩ := code_zero h0
      subst e1
      subst e2
      obtain ⟨_, _, ⟨f5, f6⟩, _⟩ := hasCards_iff.1 (isVar_cards hv)
      obtain ⟨l', rfl⟩ := Int.eq_ofNat_of_zero_le f5
      obtain ⟨m', rfl⟩ := Int.eq_ofNat_of_zero_le (Int.le_trans f5 f6)
      have e : hiC (hs.length : Int) l' m' (bs.length : Int) true lo hs bs = 0 := by unfold hiC; rw [if_pos h0]; rfl
      unfold hiR
      rw [if_pos e, e]
      exact implHighIn_yes l' m' lo A c hs A2 c2 bs B wt w ht hB hBw h0 hr hr2
    | false =>
      have e : hiC h l m b false lo hs bs = 5 := by unfold hiC; rw [if_pos h0]; rfl
      have e2 : hiR h l m b false lo hs bs = 0 := by unfold hiR; rw [e]; rfl
      rw [e, e2]
      have KC := Lib.hid (fun (W : World) (hb : Below w.heap.size w W) => codeFor_any h l m b false lo A c hs A2 c2 bs W hm64 (hr.below hb) (hr2.below hb) hn hn2)
      rw [h0] at KC
      have N0 := Lib.hid (blk_new w 25 [.int .i64 h, .int .i64 l, .int .i64 m, .int .i64 b, .bool false, .int .i64 lo])
      have B0 := Lib.hid (bl_alloc (bl_refl w) (.cells ([.int .i64 h, .int .i64 l, .int .i64 m, .int .i64 b, .bool false, .int .i64 lo] : List Value).toArray 25))
      clear hr hr2 h0 e e2
      unfold vV at *
      go_enter Tryz.func9, Tryz.ntmps9
      go_wp2_with (go_at_call 24; refine (KC.out _ B0.out).mono ?_; rintro e w1 ⟨rfl, hb1⟩; have HN1 := N0.out.below hb1; have B1 := Lib.hid (bl_trans B0.out hb1); clear hb1; obtain ⟨q4, _⟩ := HN1.cell 4 _ rfl; clear HN1)
      go_ret2
      exact ⟨rfl, B1.out⟩
  · have e : hiC h l m b hi lo hs bs = codeH h l m b hi lo hs bs := by unfold hiC; rw [if_neg h0]
    have e2 : hiR h l m b hi lo hs bs = 0 := by unfold hiR; rw [e, if_neg h0]
    rw [e, e2]
    have KC := Lib.hid (fun (W : World) (hb : Below w.heap.size w W) => codeFor_any h l m b hi lo A c hs A2 c2 bs W hm64 (hr.below hb) (hr2.below hb) hn hn2)
    have B0 := Lib.hid (bl_alloc (bl_refl w) (.cells ([.int .i64 h, .int .i64 l, .int .i64 m, .int .i64 b, .bool hi, .int .i64 lo] : List Value).toArray 25))
    clear e e2
    generalize codeH h l m b hi lo hs bs = k at *
    have hk : (k == 0) = false := by simp [h0]
    clear hr hr2
    unfold vV at *
    go_enter Tryz.func9, Tryz.ntmps9
    go_wp2_with (go_at_call 24; refine (KC.out _ B0.out).mono ?_; rintro e w1 ⟨rfl, hb1⟩; have B1 := Lib.hid (bl_trans B0.out hb1); clear hb1)
    go_ret2
    exact ⟨rfl, B1.out⟩
end Go.Proofs.YtlpkaflmhdgmmaaGreatDoor
