/-
  Put together, what this law needs of: BetPass, BetWith, SpecBetN, BetGo, BetGd.
-/
import Derived.Test.YtnllndcajdofjaaQaBetDoG
import Derived.Test.YtnllndcajdofjaaQaSeatG
import Derived.Test.YtnllndcajdofjaaQaBetAG
import Derived.Test.YtnllndcajdofjaaQaBetDG
import Derived.Test.YtnllndcajdofjaaQaSpecBetF
import Derived.Test.YtnllndcajdofjaaQaBetActG
namespace Go.Proofs.Ytnllndcajdofjaa
open Go.RowKit
set_option linter.unusedVariables false
attribute [local go_sem] Oper.semAt_some

/-- The first seat of s on that has to act, or the seat whose turn it is. -/
def hopS (b : Bt) (s : Int) : Nat := (List.range b.st.length).findIdx (fun k => mustB b (seatAt b.st.length s k).toNat)
def nxtS (b : Bt) (s : Int) : Int := if hopS b s < b.st.length then seatAt b.st.length s (hopS b s) else b.tu
theorem hopS_before (b : Bt) (s : Int) (k : Nat) (h : k < hopS b s) (hk : k < b.st.length) : mustB b (seatAt b.st.length s k).toNat = false := by
  have := List.not_of_lt_findIdx h
  simpa using this
theorem hopS_at (b : Bt) (s : Int) (h : hopS b s < b.st.length) : mustB b (seatAt b.st.length s (hopS b s)).toNat = true := by
  have := List.findIdx_getElem (p := fun k => mustB b (seatAt b.st.length s k).toNat) (xs := List.range b.st.length) (w := by rw [List.length_range]; exact h)
  simpa [hopS] using this
theorem nxtS_bd (b : Bt) (s : Int) (h0 : 0 ≤ b.tu) (h1 : b.tu < b.st.length) : 0 ≤ nxtS b s ∧ nxtS b s < b.st.length := by
  unfold nxtS
  split
  · exact seatAt_bd _ _ _ (by omega)
  · exact ⟨h0, h1⟩
theorem below_set2 {n : Nat} {w W : World} (h : Below n w W) {g : Nat} {t : TypeId} {vs : List Value} (hb : Blk w g t vs) (hg : g < n) (k : Nat) (v : Value) : Below n (w.setCell ⟨g, k, none⟩ v) (W.setCell ⟨g, k, none⟩ v) := by
  have hB : Blk W g t vs := (h.block g hg).trans hb
  obtain ⟨s1, s2⟩ := blk_set hb k v
  obtain ⟨t1, t2⟩ := blk_set hB k v
  refine ⟨?_, ?_, ?_, ?_, fun j hj => ?_⟩
  · exact (t2.os.trans h.os).trans s2.os.symm
  · exact (t2.tape.trans h.tape).trans s2.tape.symm
  · exact (t2.output.trans h.output).trans s2.output.symm
  · have := h.size
    simpa [World.setCell] using this
  · by_cases e : j = g
    · subst e; exact t1.trans s1.symm
    · rw [heap_setCell_other _ _ _ _ e, heap_setCell_other _ _ _ _ e]
      exact h.block j hj
theorem kWalk_ptr : kWalk 94 = false := by kernel_rfl
theorem kWalk_bet : kWalk 27 = false := by kernel_rfl
/-- What the rounds keep: the world ahead, with the turn set once a seat is found. -/
def PI (w0 wS : World) (g M i : Nat) (W : World) : Prop :=
  Blk W w0.heap.size 94 [.pointer (some ⟨g, 0, none⟩)] ∧ Below w0.heap.size (if i ≤ M then w0 else wS) W
theorem pi_itw {w0 wS : World} {g M i n0 : Nat} {X Y : World} (h : PI w0 wS g M i X) (hb : ItW kWalk n0 X Y) (hn : w0.heap.size ≤ n0) : PI w0 wS g M i Y :=
  ⟨itw_blk hb h.1 kWalk_ptr, h.2.trans (hb.1.mono hn)⟩
set_option maxRecDepth 100000 in
set_option maxHeartbeats 1000000 in
theorem passTurn_any (g : Nat) (L : At5) (b : Bt) (s : Int) (w : World) (h : NB w g L b) (k : Sd b) (hs0 : 0 ≤ s) (hs1 : s < b.st.length) :
    Calls Try.prog 87 #[.pointer (some ⟨g, 0, none⟩), .int .i64 s] w (Did g L { b with tu := nxtS b s } w) := by
  have i1 : (Try.prog.info? 2).map (·.size) = some 1 := by kernel_rfl
  have n2 := k.n2
  have n6 := k.n6
  obtain ⟨w0, rfl⟩ : ∃ w0 : World, w0 = w := ⟨w, rfl⟩
  have hgl0 := h.blk.lt
  have KS := Lib.hid (fun (W : World) (hb : Below w0.heap.size w0 W) => seatCountB_any g L b W (h.at_.below hb))
  have KH := Lib.hid (fun (j : Nat) (hj : j < b.st.length) (W : World) (hb : Below w0.heap.size w0 W) => hasToAct_any g L b j W (h.at_.below hb) k hj)
  have HH := Lib.hid h
  have HSX := Lib.hid (And.intro hs0 hs1)
  have BB := Lib.hid (hopS_before b s)
  have n0 := blk_new w0 94 [.pointer (some ⟨g, 0, none⟩)]
  have b0 := bl_alloc (bl_refl w0) (.cells ([.pointer (some ⟨g, 0, none⟩)] : List Value).toArray 94)
  have N0 := Lib.hid n0
  have B0 := Lib.hid b0
  clear h k n0 b0
  refine (callsIn_wide (n := 10)).1 ?_
  refine callsIn_of_wp_marks Try.func87 rfl trivial ?_ rfl
  simp only [Try.ntmps87, List.size_toArray, List.length_cons, List.length_nil, Nat.reduceAdd, Nat.reduceSub, Array.replicate_succ, Array.replicate_zero, List.push_toArray, List.append_toArray, List.nil_append, List.cons_append]
  have cb := (N0.out.cell 0 _ rfl).1
  gi_wp2_with (refine ⟨trivial, ?_⟩; gi_at_call 89; refine (callsIn_wide.2 (KS.out _ B0.out)).mono ?_; rintro e w7 ⟨rfl, rfl⟩)
  obtain ⟨W2, e2⟩ : ∃ W2, W2 = ((w0.alloc (.cells ([.pointer (some ⟨g, 0, none⟩)] : List Value).toArray 94)).alloc (.cells ([.int .i64 s, .int .i64 b.st.length] : List Value).toArray 138)) := ⟨_, rfl⟩
  have B2 : Hid (Below w0.heap.size w0 W2) := by rw [e2]; exact Lib.hid (bl_alloc B0.out _)
  have N2 : Hid (Blk W2 w0.heap.size 94 [.pointer (some ⟨g, 0, none⟩)]) := by rw [e2]; exact Lib.hid (N0.out.below (bl_alloc (bl_refl _) _))
  have hz2 : w0.heap.size ≤ W2.heap.size := B2.out.size
  simp only [List.toArray] at e2
  rw [← e2]
  clear e2 N0 B0 cb KS
  by_cases hM : hopS b s < b.st.length
  · have sb := seatAt_bd b.st.length s (hopS b s) (by omega)
    have EV : nxtS b s = seatAt b.st.length s (hopS b s) := if_pos hM
    have ma := hopS_at b s hM
    obtain ⟨v, hv⟩ := Int.eq_ofNat_of_zero_le sb.1
    have hvl : v < b.st.length := by omega
    rw [hv] at EV ma
    rw [Int.toNat_natCast] at ma
    have SB := blk_set HH.out.blk 5 (.int .i64 (v : Int))
    have HS := Lib.hid (HH.out.setTu (v : Int) SB.1 SB.2)
    obtain ⟨wS, eS⟩ : ∃ wS, wS = w0.setCell ⟨g, 5, none⟩ (.int .i64 (v : Int)) := ⟨_, rfl⟩
    rw [← eS] at HS
    have hzS : wS.heap.size = w0.heap.size := by rw [eS]; simp [World.setCell]
    have ES := Lib.hid eS
    have EVH := Lib.hid EV
    have HV := Lib.hid hv
    clear SB eS EV hv sb
    generalize hopS b s = M at *
    have KIT := seatsX_any 9 b.st.length M s (PI w0 wS g M) W2 (by omega) hM n6 HSX.out.1 HSX.out.2
    have I0 : Hid (PI w0 wS g M 0 W2) := Lib.hid ⟨N2.out, by rw [if_pos (Nat.zero_le _)]; exact B2.out⟩
    refine wpIn_rangeXF (e0 := .ret) (j := .ret) rfl (by omega) (gf := 151) (fa := #[wkV s b.st.length]) (lb := #[]) rfl trivial (enters_of Try.func151 (by kernel_rfl) rfl)
      (.inl ⟨rfl, rfl⟩) KIT (fun i W' ar h => by rw [show ar = _ from h]; rfl) (fun i A' B' ar h _ => h)
      (fun i A' B' h hb' => pi_itw h hb' hz2) I0.out
      (fun ar W' => { tmps := #[.pointer (some ⟨g, 0, none⟩), .int .i64 s, .pointer (some ⟨w0.heap.size, 0, none⟩), undef, .pointer (some ⟨w0.heap.size + 1, 0, none⟩), ar.getD 0 undef, .int .i64 s, .pointer (some ⟨g, 0, none⟩), .int .i64 b.st.length, .agg #[.int .i64 s, .int .i64 b.st.length], .agg #[.int .i64 s, .int .i64 b.st.length], .func (.func 151) #[wkV s b.st.length] #[], ar.getD 0 undef, undef, undef, undef, undef, undef, undef, undef], defers := [] })
      (fun ar W' W'' => W' = W'') (fun i ar W' W'' hi1 hw hI hY hRA => by subst hRA; exact ⟨Con.refl _ _, hI, hY⟩) ?assign ?body ?last ?done
    case assign =>
      intro lr i ar W' Kc hw hI h hKc
      obtain rfl : ar = _ := h
      have HK := Lib.hid hKc
      clear hKc hI hw I0 KIT
      gi_wp2
      exact HK.out _ rfl
    case body =>
      intro lr i ar W0 Wa W hRA hi0 hI h hgl hrl hW0 hca hsz
      obtain rfl : ar = _ := h
      obtain ⟨h1, h2⟩ := hI
      rw [if_pos (by omega)] at h2
      have hz := BB.out i hi0 (by omega)
      have sb := seatAt_bd b.st.length s i (by omega)
      generalize seatAt b.st.length s i = se at *
      obtain ⟨q, rfl⟩ := Int.eq_ofNat_of_zero_le sb.1
      rw [Int.toNat_natCast] at hz
      have KX := Lib.hid (KH.out q (by omega) W h2)
      rw [hz] at KX
      have cs := (h1.cell 0 _ rfl).1
      have H1 := Lib.hid h1
      have H2 := Lib.hid h2
      clear h1 h2 hca hsz hrl I0 KIT hz hRA KH
      simp only [Array.getD_eq_getD_getElem?]
      gi_wp2_with (refine ⟨trivial, ?_⟩; gi_at_call 67; refine (callsIn_wide.2 KX.out).mono ?_; rintro e w7 ⟨rfl, m7, e7⟩; have b7 : Hid (Below W.heap.size W w7) := Lib.hid (by rw [e7]; exact bl_drewN (bl_refl _) _); clear e7)
      exact ⟨⟨H1.out.below b7.out, by rw [if_pos (by omega)]; exact H2.out.trans (b7.out.mono H2.out.size)⟩, con_below b7.out⟩
    case last =>
      intro lr ar W0 Wa W hRA hI h hgl hrl hW0 hca hsz
      obtain rfl : ar = _ := h
      obtain ⟨h1, h2⟩ := hI
      rw [if_pos (Nat.le_refl _)] at h2
      rw [HV.out]
      have KX := Lib.hid (KH.out v hvl W h2)
      rw [ma] at KX
      have cs := (h1.cell 0 _ rfl).1
      have H1 := Lib.hid h1
      have H2 := Lib.hid h2
      clear h1 h2 hca hsz hrl I0 KIT ma hRA KH
      simp only [Array.getD_eq_getD_getElem?]
      gi_wp2_with (refine ⟨trivial, ?_⟩; gi_at_call 67; refine (callsIn_wide.2 KX.out).mono ?_; rintro e w7 ⟨rfl, m7, e7⟩; have b7 : Hid (Below W.heap.size W w7) := Lib.hid (by rw [e7]; exact bl_drewN (bl_refl _) _); clear e7; have c7 := ((H1.out.below b7.out).cell 0 _ rfl).1; have c8 := ((HH.out.blk.below (H2.out.trans (b7.out.mono H2.out.size))).cell 5 _ rfl).1; have f8 := ((HH.out.blk.below (H2.out.trans (b7.out.mono H2.out.size))).cell 5 _ rfl).2)
      have H7 := H2.out.trans (b7.out.mono H2.out.size)
      have HB7 := HH.out.blk.below H7
      have S := blk_set HB7 5 (.int .i64 (v : Int))
      exact ⟨rfl, ⟨(H1.out.below b7.out).grown S.2 (fun e => by have := Option.some.inj e; omega), by rw [if_neg (by omega), ES.out]; exact below_set2 H7 HH.out.blk hgl0 5 _⟩, ((con_below b7.out).trans (con_grown (K := kWalk) S.2 HB7 kWalk_bet)).x _⟩
    case done =>
      rintro D W hD ⟨h1, h2⟩ hK
      rw [if_neg (by omega)] at h2
      have R6 := Lib.hid h2
      have HKD := Lib.hid hK
      clear h1 h2 hK I0 KIT
      gi_wp2
      have hk5 := HKD.out
      have hkl := (Array.getElem?_eq_some_iff.1 hk5).1
      have R7 := R6.out.trans (putObj_below W D (.deferred none) (by omega) hkl)
      have R8 : Below wS.heap.size wS (W.putObj D (.deferred none)) := R7.mono (by omega)
      refine ⟨by simp, .inl ⟨_, _, rfl, run_takeDeferred hk5, ?_⟩⟩
      exact ⟨.tuple #[], by simp [results, Try.f87, go_sem], rfl, by rw [EVH.out]; exact ⟨HS.out.1.below R8, HS.out.2.trans (Frm.of_below R8)⟩⟩
  · have EV : nxtS b s = b.tu := if_neg hM
    have EVH := Lib.hid EV
    have BB2 := Lib.hid (fun (j : Nat) (hj : j < b.st.length) => BB.out j (by omega) hj)
    clear EV BB
    have KIT := seatsC_any 9 b.st.length s (PI w0 w0 g 0) W2 (by omega) (by omega) n6 HSX.out.1 HSX.out.2
    have I0 : Hid (PI w0 w0 g 0 0 W2) := Lib.hid ⟨N2.out, by rw [ite_self]; exact B2.out⟩
    refine wpIn_rangeCF rfl (by omega) (gf := 151) (fa := #[wkV s b.st.length]) (lb := #[]) rfl trivial (enters_of Try.func151 (by kernel_rfl) rfl)
      KIT (fun i W' ar h => by rw [show ar = _ from h]; rfl) (fun i A' B' ar h _ => h)
      (fun i A' B' h hb' => pi_itw h hb' hz2) I0.out
      (fun ar W' => { tmps := #[.pointer (some ⟨g, 0, none⟩), .int .i64 s, .pointer (some ⟨w0.heap.size, 0, none⟩), undef, .pointer (some ⟨w0.heap.size + 1, 0, none⟩), ar.getD 0 undef, .int .i64 s, .pointer (some ⟨g, 0, none⟩), .int .i64 b.st.length, .agg #[.int .i64 s, .int .i64 b.st.length], .agg #[.int .i64 s, .int .i64 b.st.length], .func (.func 151) #[wkV s b.st.length] #[], ar.getD 0 undef, undef, undef, undef, undef, undef, undef, undef], defers := [] })
      (fun ar W' => W') (fun ar W' => bl_refl W') ?assign ?body ?done
    case assign =>
      intro lr i ar W' Kc h hKc
      obtain rfl : ar = _ := h
      clear I0 KIT
      gi_wp2
      exact hKc
    case body =>
      intro lr i ar W0 W hi0 hI h hgl hrl hW0 hca hsz
      obtain rfl : ar = _ := h
      obtain ⟨h1, h2⟩ := hI
      rw [ite_self] at h2
      have hz := BB2.out i hi0
      have sb := seatAt_bd b.st.length s i (by omega)
      generalize seatAt b.st.length s i = se at *
      obtain ⟨q, rfl⟩ := Int.eq_ofNat_of_zero_le sb.1
      rw [Int.toNat_natCast] at hz
      have KX := Lib.hid (KH.out q (by omega) W h2)
      rw [hz] at KX
      have cs := (h1.cell 0 _ rfl).1
      have H1 := Lib.hid h1
      have H2 := Lib.hid h2
      clear h1 h2 hca hsz hrl I0 KIT hz KH
      simp only [Array.getD_eq_getD_getElem?]
      gi_wp2_with (refine ⟨trivial, ?_⟩; gi_at_call 67; refine (callsIn_wide.2 KX.out).mono ?_; rintro e w7 ⟨rfl, m7, e7⟩; have b7 : Hid (Below W.heap.size W w7) := Lib.hid (by rw [e7]; exact bl_drewN (bl_refl _) _); clear e7)
      exact ⟨⟨H1.out.below b7.out, by rw [ite_self]; exact H2.out.trans (b7.out.mono H2.out.size)⟩, con_below b7.out⟩
    case done =>
      rintro D W hD ⟨h1, h2⟩ hK
      rw [ite_self] at h2
      have R6 := Lib.hid h2
      have HKD := Lib.hid hK
      clear h1 h2 hK I0 KIT
      gi_wp2
      have hk5 := HKD.out
      have hkl := (Array.getElem?_eq_some_iff.1 hk5).1
      have R7 := R6.out.trans (putObj_below W D (.deferred none) (by omega) hkl)
      refine ⟨by simp, .inl ⟨_, _, rfl, run_takeDeferred hk5, ?_⟩⟩
      exact ⟨.tuple #[], by simp [results, Try.f87, go_sem], rfl, by rw [EVH.out]; exact ⟨HH.out.below R7, Frm.of_below R7⟩⟩
end Go.Proofs.Ytnllndcajdofjaa

namespace Go.Proofs.Ytnllndcajdofjaa
open Go.RowKit
set_option linter.unusedVariables false

/-- The round, begun by seat f. -/
def begB (d : Bt) (f : Int) : Bt := { d with tu := nxtS { d with tu := f } f }
end Go.Proofs.Ytnllndcajdofjaa

namespace Go.Proofs.Ytnllndcajdofjaa
open Go.RowKit
set_option linter.unusedVariables false

/-- The first seat left of s that has to act, or the seat whose turn it is. -/
def hopG (b : Bt) (s : Int) : Nat := (List.range b.st.length).findIdx (fun k => mustB b (seatAt b.st.length (leftI s b.st.length) k).toNat)
def nxtG (b : Bt) (s : Int) : Int := if hopG b s < b.st.length then seatAt b.st.length (leftI s b.st.length) (hopG b s) else b.tu
theorem hopG_before (b : Bt) (s : Int) (k : Nat) (h : k < hopG b s) (hk : k < b.st.length) : mustB b (seatAt b.st.length (leftI s b.st.length) k).toNat = false := by
  have := List.not_of_lt_findIdx h
  simpa using this
theorem hopG_at (b : Bt) (s : Int) (h : hopG b s < b.st.length) : mustB b (seatAt b.st.length (leftI s b.st.length) (hopG b s)).toNat = true := by
  have := List.findIdx_getElem (p := fun k => mustB b (seatAt b.st.length (leftI s b.st.length) k).toNat) (xs := List.range b.st.length) (w := by rw [List.length_range]; exact h)
  simpa [hopG] using this
theorem hopG_le (b : Bt) (s : Int) : hopG b s ≤ b.st.length := by
  have : hopG b s ≤ (List.range b.st.length).length := List.findIdx_le_length
  simpa using this
def NoneG (b : Bt) (s : Int) (k : Nat) : Prop := ∀ j, j < k → mustB b (seatAt b.st.length (leftI s b.st.length) j).toNat = false
theorem nxtG_found (b : Bt) (s : Int) (k : Nat) (hk : k < b.st.length) (h : NoneG b s k) (hh : mustB b (seatAt b.st.length (leftI s b.st.length) k).toNat = true) : nxtG b s = seatAt b.st.length (leftI s b.st.length) k := by
  have hl := hopG_le b s
  have e : hopG b s = k := by
    rcases Nat.lt_trichotomy (hopG b s) k with q | q | q
    · have := h _ q
      rw [hopG_at b s (by omega)] at this
      cases this
    · exact q
    · have := hopG_before b s k q hk
      rw [hh] at this
      cases this
  unfold nxtG
  rw [e, if_pos hk]
theorem nxtG_none (b : Bt) (s : Int) (h : NoneG b s b.st.length) : nxtG b s = b.tu := by
  unfold nxtG
  split
  · next q =>
    have := h _ q
    rw [hopG_at b s q] at this
    cases this
  · rfl
/-- The q-th seat left of s. -/
theorem left_q (n : Nat) (s : Int) (q : Nat) (hq : 1 ≤ q) (hn : 0 < n) (hs : 0 ≤ s) : ∃ j : Nat, j < n ∧ (s + (q : Int)) % (n : Int) = (j : Int) ∧ (s + (q : Int)).tmod (n : Int) = (j : Int) ∧ seatAt n (leftI s n) (q - 1) = (j : Int) := by
  have h1 := Int.emod_nonneg (s + (q : Int)) (show (n : Int) ≠ 0 by omega)
  have h2 := Int.emod_lt_of_pos (s + (q : Int)) (show (0 : Int) < n by omega)
  obtain ⟨j, hj⟩ := Int.eq_ofNat_of_zero_le h1
  refine ⟨j, by omega, hj, by rw [Int.tmod_eq_emod_of_nonneg (by omega)]; exact hj, ?_⟩
  unfold seatAt leftI
  rw [Int.emod_add_emod, show s + 1 + ((q - 1 : Nat) : Int) = s + (q : Int) by omega]
  exact hj
set_option maxRecDepth 100000 in
set_option maxHeartbeats 2000000 in
theorem l10Next_any (L : At5) (b : Bt) (s : Int) (w : World) (h : Rd5 w L b) (k : Sd b) (hs0 : 0 ≤ s) (hs1 : s ≤ 100) :
    Calls Try.prog 152 #[bV L b, .int .i64 s] w (Fresh (.int .i64 (nxtG b s)) w) := by
  have hmx : Try.prog.follows .mixedOrders = true := by kernel_rfl
  have n2 := k.n2
  have n6 := k.n6
  have BT := Lib.hid (btAt_new h)
  have B := Lib.hid (bl_box (w := w) (L := L) (b := b))
  have KH := Lib.hid (fun (j : Nat) (hj : j < b.st.length) (W : World) (hW : Rd5 W L b) => l10Has_any L b j W hW k hj)
  have HQ := Lib.hid (fun (q : Nat) (hq : 1 ≤ q) => left_q b.st.length s q hq (by omega) hs0)
  have HF := Lib.hid (nxtG_found b s)
  have HN := Lib.hid (nxtG_none b s)
  have BT1 := BT.out
  obtain ⟨q0, -⟩ := BT1.blk.cell 0 _ rfl
  obtain ⟨q1, -⟩ := BT1.blk.cell 1 _ rfl
  obtain ⟨q2, -⟩ := BT1.blk.cell 2 _ rfl
  obtain ⟨q3, -⟩ := BT1.blk.cell 3 _ rfl
  obtain ⟨q4, -⟩ := BT1.blk.cell 4 _ rfl
  obtain ⟨q5, -⟩ := BT1.blk.cell 5 _ rfl
  obtain ⟨q6, -⟩ := BT1.blk.cell 6 _ rfl
  obtain ⟨q7, -⟩ := BT1.blk.cell 7 _ rfl
  obtain ⟨q8, -⟩ := BT1.blk.cell 8 _ rfl
  clear h k BT1
  generalize nxtG b s = res at *
  obtain ⟨w0, rfl⟩ : ∃ w0 : World, w0 = w := ⟨w, rfl⟩
  unfold bV at *
  go_enter Try.func152, Try.ntmps152
  go_wp2_with fail
  go_loopw [6] (fun i wr => ∃ q : Nat, 1 ≤ q ∧ q ≤ b.st.length + 1 ∧ i = .int .i64 q ∧ Hid (NoneG b s (q - 1)) ∧ Hid (BtAt wr w0.heap.size L b) ∧ Hid (Below w0.heap.size w0 wr)) (fun i _ => b.st.length + 1 - (intOf i).toNat)
  case atStart => exact ⟨1, Nat.le_refl _, by omega, rfl, Lib.hid (fun j hj => by omega), BT, B⟩
  case round =>
    obtain ⟨q, hq1, hq2, rfl, HZ, HB, HL⟩ := hrel
    clear BT B
    have HB1 := HB.out
    obtain ⟨y0, -⟩ := HB1.blk.cell 0 _ rfl
    obtain ⟨y1, -⟩ := HB1.blk.cell 1 _ rfl
    obtain ⟨y2, -⟩ := HB1.blk.cell 2 _ rfl
    obtain ⟨y3, -⟩ := HB1.blk.cell 3 _ rfl
    obtain ⟨y4, -⟩ := HB1.blk.cell 4 _ rfl
    obtain ⟨y5, -⟩ := HB1.blk.cell 5 _ rfl
    obtain ⟨y6, -⟩ := HB1.blk.cell 6 _ rfl
    obtain ⟨y7, -⟩ := HB1.blk.cell 7 _ rfl
    obtain ⟨y8, -⟩ := HB1.blk.cell 8 _ rfl
    clear HB1
    by_cases hlt : q ≤ b.st.length
    · have hlt' : (q : Int) ≤ b.st.length := by omega
      have dlt : decide ((q : Int) ≤ b.st.length) = true := decide_eq_true hlt'
      obtain ⟨j, hj, e1, e2, e3⟩ := HQ.out q hq1
      have E3 := Lib.hid e3
      have hz : (b.st.length : Int) ≠ 0 := by omega
      have KK := Lib.hid (KH.out j hj)
      clear e3
      go_wp2_with fail
      refine wp_region_W (last := 6) (k := 6) hmx rfl (fun HC0 => ?_)
      refine wpAnyR_takeL (i := 0) (kw := 1) (v := .agg #[.slice L.a1 b.st.length L.c1, .slice L.a2 b.bt.length L.c2, .slice L.a3 b.pd.length L.c3, .slice L.a4 b.fo.length L.c4, .slice L.a5 b.ac.length L.c5, .int .i64 b.tu, .int .i64 b.un, .int .i64 b.ra, .int .i64 b.li]) (fun _ => bl_refl _) (fun p q => bl_trans p q) rfl rfl (by kernel_rfl) (by kernel_rfl) (by kernel_rfl) (by kernel_rfl) (fun _ _ _ h => h) HC0 (Or.inl ⟨by kernel_rfl, fun W' hI => ?_⟩) (fun HC1 => ?_)
      · have hv := (HB.out.blk).below hI
        obtain ⟨z0, _⟩ := hv.cell 0 _ rfl
        obtain ⟨z1, _⟩ := hv.cell 1 _ rfl
        obtain ⟨z2, _⟩ := hv.cell 2 _ rfl
        obtain ⟨z3, _⟩ := hv.cell 3 _ rfl
        obtain ⟨z4, _⟩ := hv.cell 4 _ rfl
        obtain ⟨z5, _⟩ := hv.cell 5 _ rfl
        obtain ⟨z6, _⟩ := hv.cell 6 _ rfl
        obtain ⟨z7, _⟩ := hv.cell 7 _ rfl
        obtain ⟨z8, _⟩ := hv.cell 8 _ rfl
        exact .inl (by go_simp)
      refine wpAnyR_takeL (i := 1) (kw := 3) (v := .int .i64 s) (fun _ => bl_refl _) (fun p q => bl_trans p q) rfl rfl (by kernel_rfl) (by kernel_rfl) (by kernel_rfl) (by kernel_rfl) (fun _ _ _ h => h) HC1 (Or.inl ⟨by kernel_rfl, fun W' hI => ?_⟩) (fun HC2 => ?_)
      · exact .inl (by go_simp)
      refine wpAnyR_takeL (i := 2) (kw := 3) (v := .int .i64 q) (fun _ => bl_refl _) (fun p q => bl_trans p q) rfl rfl (by kernel_rfl) (by kernel_rfl) (by kernel_rfl) (by kernel_rfl) (fun _ _ _ h => h) HC2 (Or.inl ⟨by kernel_rfl, fun W' hI => ?_⟩) (fun HC3 => ?_)
      · exact .inl (by go_simp)
      refine wpAnyR_takeL (i := 3) (kw := 2) (v := .int .i64 (s + q)) (fun _ => bl_refl _) (fun p q => bl_trans p q) rfl rfl (by kernel_rfl) (by kernel_rfl) (by kernel_rfl) (by kernel_rfl) (fun _ _ _ h => h) HC3 (Or.inl ⟨by kernel_rfl, fun W' hI => ?_⟩) (fun HC4 => ?_)
      · exact .inl (by go_simp; first | done | exact IntWalk.i64_in _ (by omega))
      refine wpAnyR_takeL (i := 4) (kw := 2) (v := .int .i64 b.st.length) (fun _ => bl_refl _) (fun p q => bl_trans p q) rfl rfl (by kernel_rfl) (by kernel_rfl) (by kernel_rfl) (by kernel_rfl) (fun _ _ _ h => h) HC4 (Or.inl ⟨by kernel_rfl, fun W' hI => ?_⟩) (fun HC5 => ?_)
      · exact .inl (by go_simp)
      refine wpAnyR_takeL (i := 5) (kw := 1) (v := .int .i64 j) (fun _ => bl_refl _) (fun p q => bl_trans p q) rfl rfl (by kernel_rfl) (by kernel_rfl) (by kernel_rfl) (by kernel_rfl) (fun _ _ _ h => h) HC5 (Or.inl ⟨by kernel_rfl, fun W' hI => ?_⟩) (fun HC6 => ?_)
      · exact .inl (by go_simp; first | done | (intro e; rw [e] at n2; simp at n2))
      refine wpAnyR_lastL (by kernel_rfl) (by kernel_rfl) rfl (by kernel_rfl) (fun wR hrR => ⟨bl_drewT hrR, ?_⟩)
      intro K hK
      have BR := Lib.hid (bl_drewT hrR)
      clear hrR
      rcases hm : mustB b j with _ | _
      · rw [hm] at KK
        have HN2 : Hid (NoneG b s (q + 1 - 1)) := Lib.hid (fun j' hj' => by
          by_cases e : j' = q - 1
          · subst e; rw [E3.out]; exact hm
          · exact HZ.out j' (by omega))
        clear hm
        go_simp
        go_wp2_with (go_at_call 107; refine (KK.out _ (HB.out.below BR.out).rd).mono ?_; rintro e w5 ⟨rfl, hb5⟩; have HB5 := Lib.hid ((HB.out.below BR.out).below hb5); have HL5 := Lib.hid (bl_trans (bl_trans HL.out BR.out) hb5); clear hb5)
        exact ⟨⟨q + 1, by omega, by omega, by go_num, HN2, HB5, HL5⟩, by simp [intOf]; omega⟩
      · rw [hm] at KK
        have HR : Hid (res = (j : Int)) := Lib.hid (by
          rw [HF.out (q - 1) (by omega) HZ.out (by rw [E3.out]; exact hm)]; exact E3.out)
        clear hm
        go_simp
        go_wp2_with (go_at_call 107; refine (KK.out _ (HB.out.below BR.out).rd).mono ?_; rintro e w5 ⟨rfl, hb5⟩; have HL5 := Lib.hid (bl_trans (bl_trans HL.out BR.out) hb5); clear hb5)
        go_ret
        exact ⟨by rw [HR.out]; rfl, HL5.out⟩
    · obtain rfl : q = b.st.length + 1 := by omega
      have dlt : decide (((b.st.length + 1 : Nat) : Int) ≤ b.st.length) = false := decide_eq_false (by omega)
      have HR := Lib.hid (HN.out HZ.out)
      have d2 : decide ((b.st.length : Int) + 1 ≤ (b.st.length : Int)) = false := decide_eq_false (by omega)
      go_wp2_with fail
      go_ret
      exact ⟨by rw [HR.out]; rfl, HL.out⟩
end Go.Proofs.Ytnllndcajdofjaa

namespace Go.Proofs.Ytnllndcajdofjaa
open Go.RowKit
set_option linter.unusedVariables false

/-- The first round of a table, ahead of the turn. -/
def goB0 (xs : List Int) (b s g a l : Int) : Bt :=
  ⟨(List.range xs.length).map (fun i => nth xs i - nth (anteL xs a) i - nth (blindL xs b s g a) i), blindL xs b s g a, anteL xs a, List.replicate xs.length false, List.replicate xs.length false, 0, g, 0, l⟩
/-- The first round of a table. -/
def goB (xs : List Int) (b s g a l : Int) : Bt := begB (goB0 xs b s g a l) (firstI xs.length b 0)
theorem goB0_len (xs : List Int) (b s g a l : Int) : (goB0 xs b s g a l).st.length = xs.length := by simp [goB0]
theorem goB0_st (xs : List Int) (b s g a l : Int) (i : Nat) (h : i < xs.length) : nth (goB0 xs b s g a l).st i = nth xs i - nth (anteL xs a) i - nth (blindL xs b s g a) i := by
  rw [nth_eq _ _ (by rw [goB0_len]; exact h)]; simp [goB0]
theorem blindL_nth {xs : List Int} {b : Int} (s g a : Int) (h2 : 2 ≤ xs.length) (h0 : 0 ≤ b) (h1 : b < xs.length) (i : Nat) (h : i < xs.length) :
    nth (blindL xs b s g a) i = if (bigI xs.length b) = i then blindV xs a g i else if (smallI xs.length b) = i then blindV xs a s i else 0 := by
  obtain ⟨k1, k2⟩ := small_bd xs.length b (by omega) h0 h1
  obtain ⟨k3, k4⟩ := big_bd xs.length b (by omega)
  obtain ⟨p, hp⟩ := Int.eq_ofNat_of_zero_le k1
  obtain ⟨q, hq⟩ := Int.eq_ofNat_of_zero_le k3
  unfold blindL
  rw [hp] at k2
  rw [hq] at k4
  rw [hp, hq, Int.toNat_natCast, Int.toNat_natCast, nth_set_if _ _ _ (by simp; omega), nth_set_if _ _ _ (by simp; omega)]
  by_cases e : q = i
  · subst e; simp
  · have e' : ¬ ((q : Int) = (i : Int)) := by omega
    rw [if_neg e, if_neg e']
    by_cases e2 : p = i
    · subst e2; simp
    · have e3 : ¬ ((p : Int) = (i : Int)) := by omega
      rw [if_neg e2, if_neg e3]
      rw [nth_eq _ _ (by rw [List.length_replicate]; exact h), List.getElem_replicate]
theorem pos_blind (n b : Int) (h2 : 2 ≤ n) (h6 : n ≤ 6) (h0 : 0 ≤ b) (h1 : b < n) :
    posI n (firstI n b 0) (bigI n b) = n - 1 ∧ posI n (firstI n b 0) (smallI n b) = n - 2 ∧ posI n (firstI n b 0) (firstI n b 0) = 0 := by
  unfold posI firstI bigI smallI leftI
  have : n = 2 ∨ n = 3 ∨ n = 4 ∨ n = 5 ∨ n = 6 := by omega
  rcases this with rfl | rfl | rfl | rfl | rfl <;> simp <;> omega
/-- What is said of a table's first round, seat by seat. -/
structure GoF (xs : List Int) (b s g a l : Int) (d : Bt) : Prop where
  n2 : 2 ≤ xs.length
  n6 : xs.length ≤ 6
  ln : d.st.length = xs.length
  at_ : ∀ i, i < xs.length → nth d.st i = nth xs i - nth d.pd i - nth d.bt i ∧ 0 ≤ nth d.pd i ∧ 0 ≤ nth d.bt i ∧ nth d.pd i + nth d.bt i ≤ nth xs i ∧ nth d.pd i ≤ 100000 ∧ nth d.bt i ≤ 100000 ∧ 1 ≤ nth xs i ∧ nth xs i ≤ 100000
  big : ∀ i : Nat, i < xs.length → bigI xs.length b = i → 0 < nth d.st i → nth d.bt i = g
  small : ∀ i : Nat, i < xs.length → bigI xs.length b ≠ i → smallI xs.length b = i → nth d.bt i ≤ s
  none : ∀ i : Nat, i < xs.length → bigI xs.length b ≠ i → smallI xs.length b ≠ i → nth d.bt i = 0
theorem goF {xs : List Int} {b s g a l : Int} (h : tabB xs b s g a l = true) : GoF xs b s g a l (goB0 xs b s g a l) := by
  obtain ⟨h2, h6, hx, b0, b1, g0, g1, s0, s1, a0, a1, l0, l1⟩ := tab_iff.1 h
  have key : ∀ i, i < xs.length → nth (goB0 xs b s g a l).pd i = minT a (nth xs i) := fun i hi => anteL_nth xs a i hi
  have kb : ∀ i, i < xs.length → nth (goB0 xs b s g a l).bt i = if (bigI xs.length b) = i then blindV xs a g i else if (smallI xs.length b) = i then blindV xs a s i else 0 := fun i hi => blindL_nth s g a h2 b0 b1 i hi
  have ks : ∀ i, i < xs.length → nth (goB0 xs b s g a l).st i = nth xs i - nth (goB0 xs b s g a l).pd i - nth (goB0 xs b s g a l).bt i := fun i hi => goB0_st xs b s g a l i hi
  have bv : ∀ (v : Int) (i : Nat), i < xs.length → 0 ≤ v → blindV xs a v i = minT v (nth xs i - minT a (nth xs i)) := fun v i hi hv => by unfold blindV; rw [Int.toNat_natCast]
  refine ⟨h2, h6, goB0_len .., fun i hi => ?_, fun i hi e hp => ?_, fun i hi e e2 => ?_, fun i hi e e2 => ?_⟩
  · have hxi := hx i hi
    have m1 := minT_le a (nth xs i)
    refine ⟨ks i hi, ?_⟩
    rw [key i hi, kb i hi]
    split
    · rw [bv g i hi (by omega)]
      have m2 := minT_le g (nth xs i - minT a (nth xs i))
      omega
    · split
      · rw [bv s i hi (by omega)]
        have m2 := minT_le s (nth xs i - minT a (nth xs i))
        omega
      · omega
  · have hk := ks i hi
    have hb := kb i hi
    rw [if_pos e, bv g i hi (by omega)] at hb
    rw [key i hi] at hk
    have m2 := minT_le g (nth xs i - minT a (nth xs i))
    omega
  · rw [kb i hi, if_neg e, if_pos e2, bv s i hi (by omega)]
    exact (minT_le s _).1
  · rw [kb i hi, if_neg e, if_neg e2]
theorem go_sum {xs : List Int} {b s g a l : Int} {d : Bt} (h : GoF xs b s g a l d) : ∀ k, k ≤ xs.length → sumT d.st k + (sumT d.bt k + sumT d.pd k) = sumT xs k
  | 0, _ => by simp [sumT]
  | k + 1, hk => by
    have ih := go_sum h k (by omega)
    have q := h.at_ k (by omega)
    have e1 : sumT d.st (k + 1) = sumT d.st k + nth d.st k := rfl
    have e2 : sumT d.bt (k + 1) = sumT d.bt k + nth d.bt k := rfl
    have e3 : sumT d.pd (k + 1) = sumT d.pd k + nth d.pd k := rfl
    have e4 : sumT xs (k + 1) = sumT xs k + nth xs k := rfl
    omega
theorem goB_all {xs : List Int} {b s g a l : Int} (h : tabB xs b s g a l = true) : allI (goB xs b s g a l) = sumT xs xs.length := by
  have q := go_sum (goF h) xs.length (Nat.le_refl _)
  have e1 : (goB0 xs b s g a l).st.length = xs.length := goB0_len ..
  have e2 : (blindL xs b s g a).length = xs.length := blindL_len ..
  have e3 : (anteL xs a).length = xs.length := anteL_len ..
  show sumT (goB0 xs b s g a l).st (goB0 xs b s g a l).st.length + (sumT (blindL xs b s g a) (blindL xs b s g a).length + sumT (anteL xs a) (anteL xs a).length) = _
  rw [e1, e2, e3]
  exact q
theorem sd_go {xs : List Int} {b s g a l : Int} (h : tabB xs b s g a l = true) : Sd (goB0 xs b s g a l) := by
  have F := goF h
  have e2 : (blindL xs b s g a).length = xs.length := blindL_len ..
  have e3 : (anteL xs a).length = xs.length := anteL_len ..
  have n2 := F.n2
  have n6 := F.n6
  have ln := F.ln
  refine ⟨by omega, by omega, by rw [ln]; exact e2, by rw [ln]; exact e3, by rw [ln]; exact List.length_replicate .., by rw [ln]; exact List.length_replicate .., fun i hi => ?_⟩
  have hi' : i < xs.length := by
    have : i < (blindL xs b s g a).length := hi
    omega
  have := F.at_ i hi'
  omega
theorem first_bd (n b : Int) (h : 0 < n) : 0 ≤ firstI n b 0 ∧ firstI n b 0 < n := left_bd _ _ h
theorem seat_of_pos (n f j : Int) (h2 : 2 ≤ n) (h6 : n ≤ 6) (f0 : 0 ≤ f) (f1 : f < n) (j0 : 0 ≤ j) (j1 : j < n) : seatAt n f (posI n f j).toNat = j := by
  unfold seatAt posI
  have : n = 2 ∨ n = 3 ∨ n = 4 ∨ n = 5 ∨ n = 6 := by omega
  rcases this with rfl | rfl | rfl | rfl | rfl <;> omega
theorem pos_of_seat (n f : Int) (k : Nat) (h2 : 2 ≤ n) (h6 : n ≤ 6) (f0 : 0 ≤ f) (f1 : f < n) (hk : k < n) : posI n f (seatAt n f k) = k := by
  unfold seatAt posI
  have : n = 2 ∨ n = 3 ∨ n = 4 ∨ n = 5 ∨ n = 6 := by omega
  rcases this with rfl | rfl | rfl | rfl | rfl <;> omega
theorem can_st {d : Bt} {n i : Nat} (hf : d.fo = List.replicate n false) (h : canB d i = true) : 0 < nth d.st i := by
  unfold canB at h
  rw [hf, nthB_false] at h
  simpa using h
theorem play_go {xs : List Int} {b s g a l : Int} (h : tabB xs b s g a l = true) : Play (firstI xs.length b 0) (goB xs b s g a l) := by
  have F := goF h
  have K := sd_go h
  have hall := goB_all h
  obtain ⟨h2, h6, hx, b0, b1, g0, g1, s0, s1, a0, a1, l0, l1⟩ := tab_iff.1 h
  obtain ⟨f0, f1⟩ := first_bd xs.length b (by omega)
  obtain ⟨pb, ps, pf⟩ := pos_blind xs.length b (by omega) (by omega) b0 b1
  have hsum := sumT_bd xs (fun i hi => ⟨by have := hx i hi; omega, (hx i hi).2⟩) xs.length (Nat.le_refl _)
  obtain ⟨d, ed⟩ : ∃ d, d = goB0 xs b s g a l := ⟨_, rfl⟩
  have eG : goB xs b s g a l = begB d (firstI xs.length b 0) := by rw [ed]; rfl
  have hfo : d.fo = List.replicate xs.length false := by rw [ed]; rfl
  have hac : d.ac = List.replicate xs.length false := by rw [ed]; rfl
  have hun : d.un = g := by rw [ed]; rfl
  have hra : d.ra = 0 := by rw [ed]; rfl
  have hli : d.li = l := by rw [ed]; rfl
  rw [← ed] at F K
  rw [eG] at hall ⊢
  clear ed eG
  generalize firstI xs.length b 0 = f at *
  have ln := F.ln
  have tb := nxtS_bd { d with tu := f } f f0 (by show f < (d.st.length : Int); rw [ln]; exact f1)
  have hst : (begB d f).st = d.st := rfl
  have hbt : (begB d f).bt = d.bt := rfl
  have hpd : (begB d f).pd = d.pd := rfl
  have ok : Ok (begB d f) := by
    refine ⟨K.n2, K.n6, tb.1, tb.2, K.l2, K.l3, K.l4, K.l5, ⟨0, by show 0 < d.st.length; have := K.n2; omega, by show nthB d.fo 0 = false; rw [hfo]; exact nthB_false _ _⟩, fun i hi => ?_, K.s2, fun i hi => ?_, by omega, by show 1 ≤ d.un; omega, by show d.un ≤ 100000; omega, by show 0 ≤ d.ra; omega, by show d.ra ≤ 4; omega, by show 0 ≤ d.li; omega, by show d.li ≤ 2; omega⟩
    · have := F.at_ i (by have : i < d.st.length := hi; omega)
      show 0 ≤ nth d.st i ∧ nth d.st i ≤ 600000
      omega
    · have := F.at_ i (by have : i < d.pd.length := hi; have := K.l3; omega)
      show 0 ≤ nth d.pd i ∧ nth d.pd i ≤ 600000
      omega
  refine ⟨ok, f0, by rw [hst, ln]; exact f1, fun j hj => ?_, ?_, .inr ⟨fun j hj hc => ?_, fun i j hi hj ci cj hp => ?_, fun ho j hj hp => ?_⟩⟩
  · have := F.at_ j (by rw [hst, ln] at hj; exact hj)
    unfold totI
    rw [hst, hbt, hpd]
    omega
  · obtain ⟨q, hq, e⟩ := maxK_at d.bt K.s2 d.bt.length (by have := K.n2; have := K.l2; omega) (Nat.le_refl _)
    exact ⟨q, by rw [hst]; have := K.l2; omega, by show nthB d.fo q = false; rw [hfo]; exact nthB_false _ _, e⟩
  · show nthB d.ac j = false
    rw [hac]; exact nthB_false _ _
  · rw [hst, ln] at hi hj hp
    have si := can_st hfo (show canB d i = true from ci)
    have sj := can_st hfo (show canB d j = true from cj)
    show nth d.bt i ≤ nth d.bt j
    have hbd := pos_bd xs.length f j (by omega)
    have aj := F.at_ j hj
    by_cases e1 : bigI xs.length b = i
    · rw [e1] at pb; omega
    · by_cases e2 : smallI xs.length b = i
      · rw [e2] at ps
        have bb := big_bd xs.length b (by omega)
        have e3 : bigI xs.length b = j := pos_inj xs.length f _ _ (by omega) bb.1 bb.2 (by omega) (by omega) (by omega)
        have := F.small i hi e1 e2
        have := F.big j hj e3 sj
        omega
      · rw [F.none i hi e1 e2]; omega
  · rw [hst, ln] at hj hp
    rcases hcj : canB (begB d f) j with _ | _
    · rfl
    exfalso
    by_cases hh : hopS { d with tu := f } f < d.st.length
    · have et : (begB d f).tu = seatAt xs.length f (hopS { d with tu := f } f) := by
        show nxtS { d with tu := f } f = _
        unfold nxtS
        rw [if_pos hh, ← ln]
      rw [et, pos_of_seat _ _ _ (by omega) (by omega) f0 f1 (by omega)] at hp
      have hb := pos_bd xs.length f j (by omega)
      have es := seat_of_pos xs.length f j (by omega) (by omega) f0 f1 (by omega) (by omega)
      have hbef := hopS_before { d with tu := f } f (posI xs.length f j).toNat (by omega) (by show _ < d.st.length; omega)
      have e1 : seatAt (d.st.length : Int) f (posI xs.length f j).toNat = (j : Int) := by rw [ln]; exact es
      have hbef' : mustB d j = false := by
        have q : mustB d (seatAt (d.st.length : Int) f (posI xs.length f j).toNat).toNat = false := hbef
        rw [e1, Int.toNat_natCast] at q
        exact q
      have hmt : mustB d (begB d f).tu.toNat = true := ho
      have hct : canB d (begB d f).tu.toNat = true := by
        unfold mustB at hmt
        rcases hq : canB d (begB d f).tu.toNat with _ | _
        · rw [hq] at hmt; simp at hmt
        · rfl
      have hne : (begB d f).tu.toNat ≠ j := by
        intro r
        rw [r] at hmt
        rw [hbef'] at hmt
        cases hmt
      have hlt : (begB d f).tu.toNat < d.st.length := by
        have := ok.t1
        have := ok.t0
        rw [hst] at *
        omega
      have han := ano_yes (b := d) (i := j) (begB d f).tu.toNat hlt hne hct
      have hcj' : canB d j = true := hcj
      unfold mustB at hbef'
      rw [hcj', han, hac, nthB_false] at hbef'
      simp at hbef'
    · have et : (begB d f).tu = f := by
        show nxtS { d with tu := f } f = _
        unfold nxtS
        rw [if_neg hh]
      have hb := pos_bd xs.length f j (by omega)
      rw [et] at hp
      omega
/-- A drawn action is one of the choices. -/
theorem least_most {b : Bt} : leastI b ≤ mostI b := by
  unfold leastI mostI
  split
  · exact (minT_le _ _).1
  · exact Int.le_refl _
theorem leg_raise {b : Bt} {x : Int} (h : 0 < mostI b) (h1 : leastI b ≤ x) (h2 : x ≤ mostI b) : legB b 3 x = true := by
  unfold legB
  simp [h, h1, h2]
theorem leg_fold (b : Bt) : legB b 0 0 = true := by unfold legB; simp
end Go.Proofs.Ytnllndcajdofjaa

namespace Go.Proofs.Ytnllndcajdofjaa
open Go.RowKit
set_option linter.unusedVariables false

/-- The lists of a drawn round are short. -/
structure Ln (b : Bt) : Prop where
  n2 : 2 ≤ b.st.length
  n6 : b.st.length ≤ 6
  m2 : b.bt.length ≤ 6
  m3 : b.pd.length ≤ 6
  m4 : b.fo.length ≤ 6
  m5 : b.ac.length ≤ 6
theorem Ln.sm {b : Bt} (h : Ln b) : Sm b := ⟨by have := h.n6; omega, by have := h.m2; omega, by have := h.m3; omega, by have := h.m4; omega, by have := h.m5; omega⟩
theorem ln_play {f : Int} {b : Bt} (h : Play f b) : Ln b := by
  have k := h.ok
  have n6 := k.n6
  exact ⟨k.n2, n6, by have := k.l2; omega, by have := k.l3; omega, by have := k.l4; omega, by have := k.l5; omega⟩
theorem tot_bet {f : Int} {b : Bt} (h : Play f b) (j : Nat) (hj : j < b.st.length) : nth b.st j + nth b.bt j ≤ 100000 ∧ 0 ≤ nth b.bt j ∧ nth b.bt j ≤ 100000 := by
  have q := (h.tot j hj).2
  have p := (h.ok.s3 j (by have := h.ok.l3; omega)).1
  have p1 := (h.ok.s1 j hj).1
  have p2 := (h.ok.s2 j (by have := h.ok.l2; omega)).1
  unfold totI at q
  omega
theorem gd_play {f : Int} {b : Bt} (h : Play f b) : Good b := good_of h.top (fun _ j hj => (tot_bet h j hj).1)
theorem gd_tu {f : Int} {b : Bt} (h : Play f b) (v : Int) : Good { b with tu := v } := good_of (b := { b with tu := v }) h.top (fun _ j hj => (tot_bet h j hj).1)
theorem gd_un {f : Int} {b : Bt} (h : Play f b) (v : Int) : Good { b with un := v } := good_of (b := { b with un := v }) h.top (fun _ j hj => (tot_bet h j hj).1)
theorem gd_ra {f : Int} {b : Bt} (h : Play f b) (v : Int) : Good { b with ra := v } := good_of (b := { b with ra := v }) h.top (fun _ j hj => (tot_bet h j hj).1)
theorem gd_no {b : Bt} (h : ¬ Ok b) : Good b := fun k x q => absurd q h
theorem gd_folded {b : Bt} (n : Nat) (h : b.fo = List.replicate n true) (hn : n = b.st.length) : Good b := gd_no fun q => by
  obtain ⟨i, hi, e⟩ := q.live
  rw [h, nthB_eq _ _ (by rw [List.length_replicate]; omega), List.getElem_replicate] at e
  cases e
theorem sum_two (xs : List Int) (h : inC xs) (i j : Nat) (hi : i < xs.length) (hj : j < xs.length) (hne : i ≠ j) : nth xs i + nth xs j ≤ sumT xs xs.length := by
  have h0 : inC (xs.set i 0) := fun k hk => by
    rw [List.length_set] at hk
    rw [nth_set_if _ _ _ hi]
    split
    · omega
    · exact h k hk
  have q := nth_le_sum (xs.set i 0) h0 j (by rw [List.length_set]; exact hj)
  rw [sumT_set xs i 0 hi, nth_set_if _ _ _ hi, if_neg hne] at q
  omega
theorem gd_st {f : Int} {b : Bt} (h : Play f b) (k : Nat) (v : Int) (hk : k < b.st.length) (hv : v = -1 ∨ v = 0 ∨ v = 600000 ∨ v = 600001) : Good { b with st := b.st.set k v } := by
  refine good_of (b := { b with st := b.st.set k v }) ?_ (fun q j hj => ?_)
  · obtain ⟨g, g1, g2, g3⟩ := h.top
    exact ⟨g, by show g < (b.st.set k v).length; rw [List.length_set]; exact g1, g2, g3⟩
  · have hj' : j < b.st.length := by have : j < (b.st.set k v).length := hj; rwa [List.length_set] at this
    show nth (b.st.set k v) j + nth b.bt j ≤ 100000
    have s1 := q.s1 k (by show k < (b.st.set k v).length; rw [List.length_set]; exact hk)
    have s1' : 0 ≤ nth (b.st.set k v) k ∧ nth (b.st.set k v) k ≤ 600000 := s1
    rw [nth_set_if _ _ _ hk, if_pos rfl] at s1'
    have tb := tot_bet h j hj'
    rw [nth_set_if _ _ _ hk]
    by_cases e : k = j
    · rw [if_pos e]
      rcases hv with r | r | r | r
      · omega
      · omega
      · exfalso
        obtain ⟨i, hi, hne⟩ : ∃ i, i < b.st.length ∧ k ≠ i := by
          have := h.ok.n2
          by_cases e0 : k = 0
          · exact ⟨1, by omega, by omega⟩
          · exact ⟨0, by omega, e0⟩
        have hs := q.sum
        have hs' : sumT (b.st.set k v) (b.st.set k v).length + (sumT b.bt b.bt.length + sumT b.pd b.pd.length) ≤ 600000 := hs
        rw [sumT_set _ _ _ hk] at hs'
        have t2 := sum_two b.st h.ok.s1 k i hk hi hne
        have u2 := nth_le_sum b.bt h.ok.s2 i (by have := h.ok.l2; omega)
        have u3 := nth_le_sum b.pd h.ok.s3 i (by have := h.ok.l3; omega)
        have t1 := (h.tot i hi).1
        unfold totI at t1
        omega
      · omega
    · rw [if_neg e]; exact tb.1
end Go.Proofs.Ytnllndcajdofjaa
