/-
  The card of the law FnRangeShares: it returns true for every code, and leaves it as it was: the combinations of a range and of the others are 1326, and dead cards only take some away.
  Condition: the table math/bits.deBruijn64tab reads as the program lays it (the card ties it).
-/
import Derived.Test.YtjmfecjgomkofabDoorDrawShares
import Derived.Test.YtjmfecjgomkofabDoorLikeLists
import Derived.Test.YtjmfecjgomkofabDoorTzLaid
import Derived.Test.YtjmfecjgomkofabDoorCards
import Derived.SevenTiedAt
import Derived.Lib.SmallJoins
namespace Go.Proofs.YtjmfecjgomkofabDoor
open Go.ChangeShapes Go.WideShapes Go.ChangeAt Go.RowKit Go.Joins
set_option linter.unusedVariables false

/-- What the law asks where a range and dead cards are drawn; else nothing. -/
theorem shares_cases (xs ys : List Int) : (liveC xs ys = 1 ∨ liveC xs ys = 2) ∨ (liveC xs ys = 0 ∧ liveC xs [] = 0 ∧ twoC xs [] = 0 ∧ liveC (othRR xs) [] = 0 ∧ (liveP xs []).length + (liveP (othRR xs) []).length = 1326 ∧ (liveP xs ys).length ≤ (liveP xs []).length) := by
  cases hx : rngB xs with
  | false => exact .inl (.inl (live_bad hx).2)
  | true =>
    cases hd : cardsB ys with
    | false => exact .inl (.inr (live_dead hx hd).2)
    | true =>
      right
      have e1 := two_yes (f := fun a b => !a) hx rng_nil
      have e2 := live_yes hx (dead := []) cards_nil
      have e3 := live_yes hx hd
      have hr : rngB (othRR xs) = true := by unfold othRR; rw [e1.1]; exact clsIn_rng _
      have e4 := live_yes hr (dead := []) cards_nil
      refine ⟨e3.2, e2.2, e1.2, e4.2, ?_, ?_⟩
      · rw [e2.1, e4.1]
        have := rc_1326 hx
        unfold othRR
        rw [e1.1]
        exact this
      · rw [e2.1, e3.1]; exact rcP_le ys xs
theorem keep_two {w8 w9 : World} {o : Obj} {g i : Nat} {v : Value} (h : w8.cell? ⟨g, i, none⟩ = some v) (hg : g < w8.heap.size) (hb : Below (w8.alloc o).heap.size (w8.alloc o) w9) : w9.cell? ⟨g, i, none⟩ = some v :=
  ((bcell hb).1 g i (by simp; omega)).trans (((bcell (bl_alloc (bl_refl w8) o)).1 g i hg).trans h)
theorem live_bdI (r dead : List Int) : ((liveP r dead).length : Int) ≤ 2028 := by have := live_bd r dead; omega
set_option maxRecDepth 100000 in
set_option maxHeartbeats 4000000 in
theorem walkShares_in (a : Option Addr) (L c : Nat) (zs : Nat → Int) (w : World) (HT : Hid (Tz w.heap.size w)) (hL : L ≤ 4096) (hc : CodeIn w a L zs) :
    Calls Tryd.prog 10 #[.slice a L c] w (Fresh (.bool true) w) := by
  have HC := Lib.hid hc
  clear hc
  go_enter Tryd.func10, Tryd.ntmps10
  go_wp2_with (go_at_call 11; ((with_reducible refine (big_no _ _ _ _ hL).mono ?_); rintro e w0 ⟨rfl, rfl⟩))
  go_wp2_with (go_at_call 38; ((with_reducible refine (drawCountCombos_any _ _ _ zs _ hL HC.out).mono ?_); rintro e w1 ⟨xs, A1, c1, ys, E1, d1, rfl, hlx, hly, hr1, hs1, hb1⟩; have Rx := Lib.hid hr1; have Ry := Lib.hid hs1; have B1 := Lib.hid hb1; clear hr1 hs1 hb1))
  have HCS := Lib.hid (shares_cases xs ys)
  have KI := Lib.hid (fun (A E : Option Addr) (c d : Nat) (W : World) (h : Rd W A xs) (h2 : Rd W E ys) (hb : Below w.heap.size w W) => implCountCombos_any A c xs E d ys w.heap.size w W h h2 (by omega) (by omega) HT (Lib.hid hb) (Lib.hid hb.size))
  have KJ := Lib.hid (fun (A E : Option Addr) (c d : Nat) (W : World) (h : Rd W A xs) (h2 : Rd W E ys) => specCountCombos_any A c xs E d ys W h h2 (by omega) (by omega))
  have KM := Lib.hid (fun (A E : Option Addr) (c d : Nat) (W : World) (h : Rd W A xs) (h2 : Rd W E ys) (hb : Below w.heap.size w W) => implRangeCombos_any A c xs E d ys w.heap.size w W h h2 (by omega) (by omega) HT (Lib.hid hb) (Lib.hid hb.size))
  have KN := Lib.hid (fun (A E : Option Addr) (c d : Nat) (W : World) (h : Rd W A xs) (h2 : Rd W E ys) => specRangeCombos_any A c xs E d ys W h h2 (by omega) (by omega))
  have KA : Hid (∀ (A : Option Addr) (c : Nat) (W : World), Rd W A xs → Below w.heap.size w W → Calls Tryd.prog 32 #[.slice A xs.length c, .slice none 0 0] W (Fresh (pairV ((liveP xs []).length : Nat) (liveC xs [])) W)) := Lib.hid (fun A c W h hb => implCountCombos_any A c xs none 0 [] w.heap.size w W h (fun h => by simp at h) (by omega) (by simp) HT (Lib.hid hb) (Lib.hid hb.size))
  have KB : Hid (∀ (A : Option Addr) (c : Nat) (W : World), Rd W A (othRR xs) → Below w.heap.size w W → Calls Tryd.prog 32 #[.slice A (othRR xs).length c, .slice none 0 0] W (Fresh (pairV ((liveP (othRR xs) []).length : Nat) (liveC (othRR xs) [])) W)) := Lib.hid (fun A c W h hb => implCountCombos_any A c (othRR xs) none 0 [] w.heap.size w W h (fun h => by simp at h) (othRR_len xs) (by simp) HT (Lib.hid hb) (Lib.hid hb.size))
  have KO := Lib.hid (fun (A : Option Addr) (c : Nat) (W : World) (h : Rd W A xs) => implOtherRange_any A c xs W h (by omega))
  have hb1 := live_bd xs ys
  have hb2 := live_bd xs []
  have hb3 := live_bd (othRR xs) []
  have hR2 : Hid (∀ h, h < (liveP xs ys).length → (liveR xs ys h).length ≤ 4000000) := Lib.hid (fun h _ => by show (2 : Nat) ≤ 4000000; omega)
  generalize liveC xs ys = kn at *
  generalize liveR xs ys = R at *
  generalize (liveP xs ys).length = H at *
  generalize (liveP xs []).length = Ha at *
  generalize liveC xs [] = ka at *
  generalize (liveP (othRR xs) []).length = Hb at *
  generalize liveC (othRR xs) [] = kb at *
  generalize othRR xs = zo at *
  generalize twoC xs [] = ko at *
  go_wp2_with (go_at_call 32; ((with_reducible refine (KI.out _ _ _ _ _ Rx.out Ry.out B1.out).mono ?_); rintro e w2 ⟨rfl, hb2⟩; have Rx := Lib.hid (Rx.out.below hb2); have Ry := Lib.hid (Ry.out.below hb2); have B2 := Lib.hid (bl_trans B1.out hb2); clear hb2))
  go_wp2_with (go_at_call 31; ((with_reducible refine (KJ.out _ _ _ _ _ Rx.out Ry.out).mono ?_); rintro e w3 ⟨rfl, hb3⟩; have Rx := Lib.hid (Rx.out.below hb3); have Ry := Lib.hid (Ry.out.below hb3); have B3 := Lib.hid (bl_trans B2.out hb3); clear hb3))
  go_wp2_with (go_at_call 34; ((with_reducible refine (KM.out _ _ _ _ _ Rx.out Ry.out B3.out).mono ?_); rintro e w4 ⟨A4, c4, AA4, CC4, rfl, hf4, hb4⟩; have Rx := Lib.hid (Rx.out.below hb4); have Ry := Lib.hid (Ry.out.below hb4); have Fl := Lib.hid hf4; have B4 := Lib.hid (bl_trans B3.out hb4); clear hf4 hb4))
  go_wp2_with (go_at_call 33; ((with_reducible refine (KN.out _ _ _ _ _ Rx.out Ry.out).mono ?_); rintro e w5 ⟨A5, c5, AA5, CC5, rfl, hf5, hb5⟩; have Rx := Lib.hid (Rx.out.below hb5); have Ry := Lib.hid (Ry.out.below hb5); have Fl := Lib.hid (Fl.out.below hb5); have Fm := Lib.hid hf5; have B5 := Lib.hid (bl_trans B4.out hb5); clear hf5 hb5))
  go_wp2_with (go_at_call 39; ((with_reducible refine (drawShareOf_any _ _ _ zs _ hL (codeIn_below HC.out B5.out)).mono ?_); rintro e w6 ⟨qs, A6, c6, rfl, hlq, ho6, hb6⟩; have Rx := Lib.hid (Rx.out.below hb6); have Ry := Lib.hid (Ry.out.below hb6); have Fl := Lib.hid (Fl.out.below hb6); have Fm := Lib.hid (Fm.out.below hb6); have Rq := Lib.hid ho6.rd; have B6 := Lib.hid (bl_trans B5.out hb6); clear ho6 hb6))
  obtain ⟨p, q, ks, KS, KT⟩ : ∃ (p q ks : Int), Hid (∀ (A : Option Addr) (c : Nat) (W : World), Rd W A qs → Below w.heap.size w W → Calls Tryd.prog 36 #[.slice A qs.length c] W (Fresh (tripV (p, q, ks)) W)) ∧ Hid (∀ (A : Option Addr) (c : Nat) (W : World), Rd W A qs → Calls Tryd.prog 35 #[.slice A qs.length c] W (Fresh (tripV (p, q, ks)) W)) :=
    ⟨(shareR qs).1, (shareR qs).2.1, (shareR qs).2.2, Lib.hid (fun A c W h hb => implShareOf_any A c qs w.heap.size w W h (by omega) HT (Lib.hid hb) (Lib.hid hb.size)), Lib.hid (fun A c W h => specShareOf_any A c qs W h (by omega))⟩
  go_wp2_with (go_at_call 36; ((with_reducible refine (KS.out _ _ _ Rq.out B6.out).mono ?_); rintro e w7 ⟨rfl, hb7⟩; have BX := bl_alloc hb7 (.cells #[.int .i64 p, .int .i64 q] 52); have Rx := Lib.hid (Rx.out.below BX); have Ry := Lib.hid (Ry.out.below BX); have Fl := Lib.hid (Fl.out.below BX); have Fm := Lib.hid (Fm.out.below BX); have Rq := Lib.hid (Rq.out.below BX); have B7 := Lib.hid (bl_alloc (bl_trans B6.out hb7) (.cells #[.int .i64 p, .int .i64 q] 52)); clear hb7 BX))
  go_wp2_with (go_at_call 35; ((with_reducible refine (KT.out _ _ _ Rq.out).mono ?_); rintro e w8 ⟨rfl, hb8⟩; have BX := bl_alloc hb8 (.cells #[.int .i64 p, .int .i64 q] 52); have Rx := Lib.hid (Rx.out.below BX); have Ry := Lib.hid (Ry.out.below BX); have Fl := Lib.hid (Fl.out.below BX); have Fm := Lib.hid (Fm.out.below BX); have Rq := Lib.hid (Rq.out.below BX); have B8 := Lib.hid (bl_alloc (bl_trans B7.out hb8) (.cells #[.int .i64 p, .int .i64 q] 52)); have P8 : Hid (w8.cell? ⟨w7.heap.size, 0, none⟩ = some (.int .i64 p) ∧ w8.cell? ⟨w7.heap.size, 1, none⟩ = some (.int .i64 q) ∧ w7.heap.size < w8.heap.size) := Lib.hid ⟨((bcell hb8).1 _ _ (by simp)).trans (by simp [go_sem]), ((bcell hb8).1 _ _ (by simp)).trans (by simp [go_sem]), sz_new hb8⟩; clear hb8 BX))
  have q1 : (kn != kn) = false := by simp
  have q2 : ((H : Int) != (H : Int)) = false := by simp
  have q3 : (ks != ks) = false := by simp
  have q4 : (p == p) = true := by simp
  have q5 : (q == q) = true := by simp
  have hkk : (kn = 1 ∨ kn = 2) ∨ kn = 0 := by
    rcases HCS.out with e | e
    · exact .inl e
    · exact .inr e.1
  have HCQ : Hid (kn = 0 → ka = 0 ∧ ko = 0 ∧ kb = 0 ∧ Ha + Hb = 1326 ∧ H ≤ Ha) := Lib.hid (fun h => by
    rcases HCS.out with e | e
    · omega
    · exact e.2)
  clear HCS
  rcases hkk with hk | rfl
  · have hk1 : (kn != 0) = true := by
      rcases hk with rfl | rfl <;> rfl
    clear hk HCQ
    go_wp2_with (go_at_call 20; ((with_reducible refine (likeFam_same A4 A5 c4 c5 H R AA4 AA5 CC4 CC5 _ _ _ Fl.out Fm.out (by omega) hR2.out).mono ?_); rintro e w9 ⟨rfl, hb9⟩; have Rx := Lib.hid (Rx.out.below hb9); have Ry := Lib.hid (Ry.out.below hb9); have Fl := Lib.hid (Fl.out.below hb9); have Fm := Lib.hid (Fm.out.below hb9); have Rq := Lib.hid (Rq.out.below hb9); have B9 := Lib.hid (bl_trans B8.out hb9); have z1 := P8.out.2.2; have u0 := keep_two P8.out.1 z1 hb9; have u1 := keep_two P8.out.2.1 z1 hb9; have u2 : w9.cell? ⟨w8.heap.size, 0, none⟩ = some (.int .i64 p) := ((bcell hb9).1 _ _ (by simp)).trans (by simp [go_sem]); have u3 : w9.cell? ⟨w8.heap.size, 1, none⟩ = some (.int .i64 q) := ((bcell hb9).1 _ _ (by simp)).trans (by simp [go_sem]); clear hb9))
    go_ret
    exact ⟨rfl, B9.out⟩
  · obtain ⟨rfl, rfl, rfl, hsum, hle⟩ := HCQ.out rfl
    have s1 : ((Ha : Int) + (Hb : Int) == 1326) = true := by simp; omega
    have s2 : (Ha : Int) + (Hb : Int) = 1326 := by omega
    have s3 : decide ((H : Int) ≤ (Ha : Int)) = true := decide_eq_true (by omega)
    have s4 : (H : Int) ≤ (Ha : Int) := by omega
    clear hsum hle HCQ
    go_wp2_with (first
      | (go_at_call 20; ((with_reducible refine (likeFam_same A4 A5 c4 c5 H R AA4 AA5 CC4 CC5 _ _ _ Fl.out Fm.out (by omega) hR2.out).mono ?_); rintro e w9 ⟨rfl, hb9⟩; have Rx := Lib.hid (Rx.out.below hb9); have Ry := Lib.hid (Ry.out.below hb9); have Fl := Lib.hid (Fl.out.below hb9); have Fm := Lib.hid (Fm.out.below hb9); have Rq := Lib.hid (Rq.out.below hb9); have B9 := Lib.hid (bl_trans B8.out hb9); have z1 := P8.out.2.2; have u0 := keep_two P8.out.1 z1 hb9; have u1 := keep_two P8.out.2.1 z1 hb9; have u2 : w9.cell? ⟨w8.heap.size, 0, none⟩ = some (.int .i64 p) := ((bcell hb9).1 _ _ (by simp)).trans (by simp [go_sem]); have u3 : w9.cell? ⟨w8.heap.size, 1, none⟩ = some (.int .i64 q) := ((bcell hb9).1 _ _ (by simp)).trans (by simp [go_sem]); clear hb9))
      | (go_at_call 32; ((with_reducible refine (KA.out _ _ _ Rx.out B9.out).mono ?_); rintro e w10 ⟨rfl, hb10⟩; have Rx := Lib.hid (Rx.out.below hb10); have Ry := Lib.hid (Ry.out.below hb10); have Fl := Lib.hid (Fl.out.below hb10); have Fm := Lib.hid (Fm.out.below hb10); have Rq := Lib.hid (Rq.out.below hb10); have B10 := Lib.hid (bl_trans B9.out hb10); clear hb10 KA u0 u1 u2 u3))
      | (go_at_call 40; ((with_reducible refine (KO.out _ _ _ Rx.out).mono ?_); rintro e w11 ⟨A11, c11, rfl, ho11, hb11⟩; have Ro := Lib.hid ho11.rd; have B11 := Lib.hid (bl_trans B10.out hb11); clear ho11 hb11))
      | (go_at_call 32; ((with_reducible refine (KB.out _ _ _ Ro.out B11.out).mono ?_); rintro e w12 ⟨rfl, hb12⟩; have B12 := Lib.hid (bl_trans B11.out hb12); clear hb12)))
    go_ret
    exact ⟨rfl, B12.out⟩

set_option maxRecDepth 100000 in
set_option maxHeartbeats 400000 in
theorem walkShares_big (a : Option Addr) (L c : Nat) (w : World) (hm : L ≤ maxLen) (h : 4096 < L) :
    Calls Tryd.prog 10 #[.slice a L c] w (Fresh (.bool true) w) := by
  unfold maxLen at hm
  go_enter Tryd.func10, Tryd.ntmps10
  go_wp2_with (go_at_call 11; refine (big_yes _ _ _ _ h (by omega)).mono ?_; rintro e w0 ⟨rfl, rfl⟩)
  go_ret
  exact ⟨rfl, bl_refl _⟩
theorem walkShares (a : Option Addr) (L c : Nat) (zs : Nat → Int) (w : World) (HT : Hid (Tz w.heap.size w)) (hm : L ≤ maxLen) (hc : CodeIn w a L zs) :
    Calls Tryd.prog 10 #[.slice a L c] w (Fresh (.bool true) w) := by
  by_cases h : L ≤ 4096
  · exact walkShares_in a L c zs w HT h hc
  · exact walkShares_big a L c w hm (by omega)

theorem fnRangeShares_met (os : Os) (args : Array Value) : laidMetH Tryd.prog Rows.fnRangeSharesRow.laid ((World.doorLaid Tryd.prog 400 os).forCall (fun _ _ => 0) ⟨#[], args, []⟩).memory :=
  laidMetH_of_parts3 (fuel := 8) (laidMet_of_run' 8 (by kernel_rfl) (by kernel_rfl)) (by kernel_rfl) (by kernel_rfl)

set_option maxRecDepth 100000 in
theorem fnRangeShares_lifted (os : Os) (started : os.Started) (H : Type) (enc : TypeId × Value → H) :
    ReturnsInHanded {} Tryd.checked os 10 .any (fun w args => (Rows.fnRangeSharesSpec.pre enc Tryd.prog Tryd.f10 [] false w args ∧ laidMetH Tryd.prog Rows.fnRangeSharesRow.laid w) ∧ sizedMet enc Tryd.prog Tryd.f10 (OpenSpec.ofChange Rows.fnRangeSharesSpec) false w args)
      (Rows.fnRangeSharesSpec.post enc Tryd.prog Tryd.f10 false true false false) := by
  refine law_lifted_laid started (by kernel_rfl) Tryd.func10 (by kernel_rfl) rfl (fun ds h => ?_) ?_
    (ChangeSpec.witness_shaped (enc := enc) (C := Tryd.checked) (os := os) (X := fun w _ => laidMetH Tryd.prog Rows.fnRangeSharesRow.laid w) false (World.doorLaid Tryd.prog 400 os) #[.slice none 0 0] 8 rfl (World.shaped_of_RefB (by kernel_rfl) (by kernel_rfl)) (by kernel_rfl) (by kernel_rfl) (by kernel_rfl) (fnRangeShares_met os _)) ?_
  · match ds, h with
    | [d0], _ => rfl
  · rw [Tryd.params10]
    intro t ht
    obtain rfl : t = 22 := by simpa using ht
    exact ⟨by kernel_rfl, of_decide_eq_true (by kernel_rfl)⟩
  · intro W base args ds ps hval hA hL hSh
    rw [Tryd.params10] at hA hval
    obtain ⟨v0, d0, rfl, rfl, h0⟩ := trodAll_one hA
    obtain ⟨A0, L0, c0, zs0, rfl, m0, r0⟩ := open_code (hval 0 22 v0 rfl rfl) h0
    rw [MakeChecks.laidMetH_plain _ _ _ (by kernel_rfl)] at hL
    exact walkShares A0 L0 c0 zs0 W (Lib.hid (tz_of hL)) m0 r0

theorem fnRangeShares_holds : Rows.FnRangeSharesSaid :=
  OpenClaim.holds_of_wide 10 Tryd.f10 rfl rfl rfl rfl rfl rfl rfl ⟨rfl, rfl, rfl, rfl, rfl⟩ rfl rfl rfl rfl rfl (by kernel_rfl) Tryd.func10 (by kernel_rfl)
    (of_decide_eq_true (by kernel_rfl)) (by unfold Func.isWrapper; first | (rw [if_pos (by decide +kernel)]; kernel_rfl) | (rw [if_neg (by decide +kernel)]; exact ⟨rfl, rfl⟩))
    (fun os started H enc _ => fnRangeShares_lifted os started H enc)

/-- The tied card: The combinations of a range and of the others are 1326, and dead cards only take some away, for every code. -/
theorem fnRangeShares_card : Rows.FnRangeSharesCardSaid :=
  Claim7.holds_tied_plain_at .later [] [.data] true (true, "bc26f97cd89a4ca2f3e239068703a34373eebc1043810bf7239c68db41b7c6ca") false
    fnRangeShares_holds (fun _ h => by cases h) (by kernel_rfl) (fun _ h => by cases h) fnRangeShares_row_tie rfl ⟨rfl, rfl⟩ (by kernel_rfl) rfl
    (fun f fn hf hfn => by
      obtain rfl : f = 10 := Option.some.inj ((show Tryd.prog.funcNamed "loop.example/g00910/laws.FnRangeShares" = some 10 by kernel_rfl).symm.trans hf) |>.symm
      obtain rfl : fn = Tryd.f10 := (Option.some.inj (Tryd.func10.symm.trans hfn)).symm
      exact ⟨by kernel_rfl, fun j t ht => by
        rw [Tryd.params10] at ht
        have hm : t ∈ [22] := by simpa using Array.mem_of_getElem? ht
        have hall : ([22].all fun u => !Tryd.prog.wantsStandIn u) = true := by kernel_rfl
        exact (show Tryd.prog.wantsStandIn t = false by simpa using List.all_eq_true.1 hall t hm)⟩)
    (by kernel_rfl)

end Go.Proofs.YtjmfecjgomkofabDoor
