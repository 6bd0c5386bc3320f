/-
  BadugiCards, BadugiValue: both texts' walks.
-/
import Derived.Test.YtajkgnheijhbpaaBadOf
import Derived.Test.YtajkgnheijhbpaaBadSpec
import Derived.Test.YtajkgnheijhbpaaNumN
import Derived.Test.YtajkgnheijhbpaaLowRanksFns
namespace Go.Proofs.Ytajkgnheijhbpaa
open Go.RowKit
set_option linter.unusedVariables false

noncomputable def bcR (xs : List Int) : List Int := if sizedB xs 4 4 = true then badS xs else []
def valB (ys : List Int) : Int := digs (lrs ys) + 28561 * (4 - (ys.length : Int))
noncomputable def bvR (xs : List Int) : Int := if sizedB xs 4 4 = true then valB (badS xs) else 0
theorem bcR_yes {xs : List Int} (h : sizedB xs 4 4 = true) : bcR xs = badS xs := by unfold bcR; rw [if_pos h]
theorem bcR_no {xs : List Int} (h : sizedB xs 4 4 = false) : bcR xs = [] := by unfold bcR; rw [h]; rfl
theorem bvR_yes {xs : List Int} (h : sizedB xs 4 4 = true) : bvR xs = valB (badS xs) := by unfold bvR; rw [if_pos h]
theorem bvR_no {xs : List Int} (h : sizedB xs 4 4 = false) : bvR xs = 0 := by unfold bvR; rw [h]; rfl
theorem badS_len (xs : List Int) (hl : xs.length ≤ 4) : (badS xs).length ≤ 4 := by
  by_cases he : ∃ ys, IsBad xs ys
  · obtain ⟨ys, hy⟩ := he
    rw [badS_eq hy]; exact (isBad_facts hl hy).1
  · unfold badS; rw [dif_neg he]; simp
theorem bcR_len (xs : List Int) : (bcR xs).length ≤ 8 := by
  rcases h : sizedB xs 4 4 with _ | _
  · rw [bcR_no h]; simp
  · rw [bcR_yes h]
    have := badS_len xs (by have := (sized_iff.1 h).2.1; omega)
    omega
theorem pairE {p q : Int} (h : p = q) : Ending.returned (pairV p 0) = Ending.returned (pairV q 0) := by rw [h]
theorem bad_more {xs b : List Int} (h4 : xs.length = 4) (hc : cardsB xs = true) (h : IsBad xs b) : b.length ≤ 4 ∧ (∀ y ∈ b, 0 ≤ y ∧ y < 52) ∧ descR (lrs b) = lrs b := by
  obtain ⟨h1, h2, _, h3⟩ := isBad_facts (by omega) h
  exact ⟨h1, fun y hy => ((cards_iff xs).1 hc).1 y (h2 y hy), falls_desc (h3.imp (fun q => Int.le_of_lt q))⟩
set_option maxRecDepth 100000 in
set_option maxHeartbeats 1000000 in
theorem implBadugiCards_any (A : Option Addr) (c : Nat) (xs : List Int) (w : World) (hr : Rd w A xs) (hn : xs.length ≤ 4000000) :
    Calls Try.prog 14 #[.slice A xs.length c] w (NewRC (bcR xs) (codeZ xs 4 4) w) := by
  have K := Lib.hid (fun (c : Nat) => implSized_any A c xs 4 4 w hr hn)
  rcases hd : sizedB xs 4 4 with _ | _
  · rw [bcR_no hd, codeZ_no hd]
    rw [hd] at K
    clear hd hr
    go_enter Try.func14, Try.ntmps14
    go_wp2_with (go_at_call 45; refine (K.out _).mono ?_; rintro e w1 ⟨rfl, rfl⟩)
    go_ret2
    exact ⟨none, 0, rfl, Row.nil _ _, bl_refl _⟩
  · rw [bcR_yes hd, codeZ_yes hd]
    rw [hd] at K
    obtain ⟨h0, h8, hb⟩ := sized_iff.1 hd
    have h4 : xs.length = 4 := by omega
    obtain ⟨b0, off, rfl, _⟩ := id hr (by omega)
    have K2 := Lib.hid (badugiOf_any b0 off c xs w hr h4 hb)
    rw [h4] at K ⊢
    clear hd hr hb hn h0 h8 h4
    go_enter Try.func14, Try.ntmps14
    go_wp2_with (first
      | (go_at_call 45; refine (K.out _).mono ?_; rintro e w1 ⟨rfl, rfl⟩)
      | (go_at_call 47; refine K2.out.mono ?_; rintro e w2 ⟨b, g, rfl, hg, hk2, hbad, hb2⟩; have N2 := Lib.hid hk2; have B2 := Lib.hid hb2; have G2 := Lib.hid hg; have EB := Lib.hid (badS_eq hbad); clear hk2 hb2 hg hbad))
    go_ret2
    rw [EB.out]
    exact ⟨_, _, rfl, row_blk N2.out G2.out, B2.out⟩
set_option maxRecDepth 100000 in
set_option maxHeartbeats 1000000 in
theorem implBadugiValue_any (A : Option Addr) (c : Nat) (xs : List Int) (w : World) (hr : Rd w A xs) (hn : xs.length ≤ 4000000) :
    Calls Try.prog 12 #[.slice A xs.length c] w (Fresh (pairV (bvR xs) (codeZ xs 4 4)) w) := by
  have K := Lib.hid (fun (c : Nat) => implSized_any A c xs 4 4 w hr hn)
  rcases hd : sizedB xs 4 4 with _ | _
  · rw [bvR_no hd, codeZ_no hd]
    rw [hd] at K
    clear hd hr
    go_enter Try.func12, Try.ntmps12
    go_wp2_with (go_at_call 45; refine (K.out _).mono ?_; rintro e w1 ⟨rfl, rfl⟩)
    go_ret2
    exact ⟨rfl, bl_refl _⟩
  · rw [bvR_yes hd, codeZ_yes hd]
    rw [hd] at K
    obtain ⟨h0, h8, hb⟩ := sized_iff.1 hd
    have h4 : xs.length = 4 := by omega
    obtain ⟨b0, off, rfl, _⟩ := id hr (by omega)
    have K2 := Lib.hid (badugiOf_any b0 off c xs w hr h4 hb)
    have KM := Lib.hid (fun b (h : IsBad xs b) => bad_more h4 hb h)
    have K3 : Hid (∀ (b : List Int) (g : Nat) (W : World), IsBad xs b → Blk W g 2 (ints b) → Calls Try.prog 46 #[.slice (some ⟨g, 0, none⟩) b.length b.length] W (NewB (lrs b) W)) := Lib.hid (fun b g W h hk => by
      obtain ⟨q1, q2, q3⟩ := KM.out b h
      have q := lowRanksOf_any (some ⟨g, 0, none⟩) b.length b W (row_blk hk (Nat.le_refl g)).rd (by omega) q2
      rw [q3] at q; exact q)
    rw [h4] at K ⊢
    clear hd hr hb hn h0 h8 h4
    go_enter Try.func12, Try.ntmps12
    go_wp2_with (first
      | (go_at_call 45; refine (K.out _).mono ?_; rintro e w1 ⟨rfl, rfl⟩)
      | (go_at_call 47; refine K2.out.mono ?_; rintro e w2 ⟨b, g, rfl, hg, hk2, hbad, hb2⟩; have B2 := Lib.hid hb2; have EB := Lib.hid (badS_eq hbad); have LB := (KM.out b hbad).1; have LL := Lib.hid (lrs_len b); have DB := digs_allN (lrs b) (lrs_ok b) (by rw [lrs_len]; omega); have K4 := Lib.hid (K3.out b g w2 hbad hk2); have EV : Hid (valB b = digs (lrs b) + 28561 * (4 - (b.length : Int))) := Lib.hid rfl; have RK := Lib.hid (lrs_ok b); clear hk2 hb2 hg hbad)
      | (go_at_call 46; refine K4.out.mono ?_; rintro e w3 ⟨rfl, hk3, hb3⟩; have B3 := Lib.hid (bl_trans B2.out hb3); have K5 := Lib.hid (numberOfN_any (some ⟨w2.heap.size, 0, none⟩) (lrs b).length (lrs b) w3 (row_blk hk3 (Nat.le_refl w2.heap.size)).rd (by rw [LL.out]; omega) RK.out); rw [LL.out]; rw [LL.out] at K5; generalize digs (lrs b) = dg at *; clear hk3 hb3)
      | (go_at_call 48; refine K5.out.mono ?_; rintro e w4 ⟨rfl, rfl⟩))
    go_ret2
    rw [EB.out, EV.out]
    refine ⟨?_, B3.out⟩
    exact pairE (by omega)
set_option maxRecDepth 100000 in
set_option maxHeartbeats 1000000 in
theorem specBadugiCards_any (A : Option Addr) (c : Nat) (xs : List Int) (w : World) (hr : Rd w A xs) (hn : xs.length ≤ 4000000) (hcap : xs.length ≤ c) :
    Calls Try.prog 15 #[.slice A xs.length c] w (NewRC (bcR xs) (codeZ xs 4 4) w) := by
  have K := Lib.hid (fun (c : Nat) => specSized_any A c xs 4 4 w hr hn)
  rcases hd : sizedB xs 4 4 with _ | _
  · rw [bcR_no hd, codeZ_no hd]
    rw [hd] at K
    clear hd hr
    go_enter Try.func15, Try.ntmps15
    go_wp2_with (go_at_call 49; refine (K.out _).mono ?_; rintro e w1 ⟨rfl, hb1⟩; have B1 := Lib.hid hb1; clear hb1)
    go_ret2
    exact ⟨none, 0, rfl, Row.nil _ _, B1.out⟩
  · rw [bcR_yes hd, codeZ_yes hd]
    rw [hd] at K
    obtain ⟨h0, h8, hb⟩ := sized_iff.1 hd
    have h4 : xs.length = 4 := by omega
    have K2 := Lib.hid (fun (W : World) (h : Below w.heap.size w W) => l05Badugi_any A c xs W (hr.below h) h4 (by omega) hb)
    rw [h4] at K ⊢
    clear hd hr hb hn h0 h8 h4 hcap
    go_enter Try.func15, Try.ntmps15
    go_wp2_with (first
      | (go_at_call 49; refine (K.out _).mono ?_; rintro e w1 ⟨rfl, hb1⟩; have B1 := Lib.hid hb1; clear hb1)
      | (go_at_call 50; refine (K2.out _ B1.out).mono ?_; rintro e w2 ⟨b, A2, c2, rfl, ho, hbad, hb2⟩; have N2 := Lib.hid ((Row.of_own ho).less B1.out.size); have B2 := Lib.hid (bl_trans B1.out hb2); have EB := Lib.hid (badS_eq hbad); clear ho hb2 hbad))
    go_ret2
    rw [EB.out]
    exact ⟨_, _, rfl, N2.out, B2.out⟩
set_option maxRecDepth 100000 in
set_option maxHeartbeats 1000000 in
theorem specBadugiValue_any (A : Option Addr) (c : Nat) (xs : List Int) (w : World) (hr : Rd w A xs) (hn : xs.length ≤ 4000000) (hcap : xs.length ≤ c) :
    Calls Try.prog 13 #[.slice A xs.length c] w (Fresh (pairV (bvR xs) (codeZ xs 4 4)) w) := by
  have K := Lib.hid (fun (c : Nat) => specSized_any A c xs 4 4 w hr hn)
  rcases hd : sizedB xs 4 4 with _ | _
  · rw [bvR_no hd, codeZ_no hd]
    rw [hd] at K
    clear hd hr
    go_enter Try.func13, Try.ntmps13
    go_wp2_with (go_at_call 49; refine (K.out _).mono ?_; rintro e w1 ⟨rfl, hb1⟩; have B1 := Lib.hid hb1; clear hb1)
    go_ret2
    exact ⟨rfl, B1.out⟩
  · rw [bvR_yes hd, codeZ_yes hd]
    rw [hd] at K
    obtain ⟨h0, h8, hb⟩ := sized_iff.1 hd
    have h4 : xs.length = 4 := by omega
    have K2 := Lib.hid (fun (W : World) (h : Below w.heap.size w W) => l05Badugi_any A c xs W (hr.below h) h4 (by omega) hb)
    have KM := Lib.hid (fun b (h : IsBad xs b) => bad_more h4 hb h)
    rw [h4] at K ⊢
    clear hd hr hb hn h0 h8 h4 hcap
    go_enter Try.func13, Try.ntmps13
    go_wp2_with (first
      | (go_at_call 49; refine (K.out _).mono ?_; rintro e w1 ⟨rfl, hb1⟩; have B1 := Lib.hid hb1; clear hb1)
      | (go_at_call 50; refine (K2.out _ B1.out).mono ?_; rintro e w2 ⟨b, A2, c2, rfl, ho, hbad, hb2⟩; have B2 := Lib.hid (bl_trans B1.out hb2); have EB := Lib.hid (badS_eq hbad); have LB := (KM.out b hbad).1; have LL := Lib.hid (lrs_len b); have DB := digs_allN (lrs b) (lrs_ok b) (by rw [lrs_len]; omega); have K4 := Lib.hid (l05Ranks_any A2 c2 b w2 ho.rd (by omega) (KM.out b hbad).2.1); have EV : Hid (valB b = digs (lrs b) + 28561 * (4 - (b.length : Int))) := Lib.hid rfl; have RK := Lib.hid (lrs_ok b); clear ho hb2 hbad)
      | (go_at_call 52; refine K4.out.mono ?_; rintro e w3 ⟨A3, c3, rfl, ho3, hb3⟩; have B3 := Lib.hid (bl_trans B2.out hb3); have K5 := Lib.hid (digitsN_any A3 c3 (lrs b) w3 ho3.rd (by rw [LL.out]; omega) RK.out); rw [LL.out]; rw [LL.out] at K5; generalize digs (lrs b) = dg at *; clear ho3 hb3)
      | (go_at_call 51; refine K5.out.mono ?_; rintro e w4 ⟨rfl, rfl⟩))
    go_ret2
    rw [EB.out, EV.out]
    refine ⟨?_, B3.out⟩
    exact pairE (by omega)
end Go.Proofs.Ytajkgnheijhbpaa
