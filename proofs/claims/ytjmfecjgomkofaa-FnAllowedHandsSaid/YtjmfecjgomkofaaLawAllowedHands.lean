/-
  The law FnAllowedHands returns true for every code, and leaves it as it was: HandsIn gives the hands that the variant allows, and as many as CountHands tells.
  No condition.
-/
import Derived.Test.YtjmfecjgomkofaaDrawHandsIn
import Derived.Test.YtjmfecjgomkofaaAnyS
import Derived.Test.YtjmfecjgomkofaaRoundRegion
import Derived.Test.YtjmfecjgomkofaaHandsFns
import Derived.Test.YtjmfecjgomkofaaHandsOwn
import Derived.Test.YtjmfecjgomkofaaCountFns
import Derived.Test.YtjmfecjgomkofaaLikeLists
import Derived.Test.YtjmfecjgomkofaaHasInt
import Derived.Test.YtjmfecjgomkofaaHasNo
import Derived.Lib.SmallJoins
namespace Go.Proofs.Ytjmfecjgomkofaa
open Go.ChangeShapes Go.WideShapes Go.ChangeAt Go.RowKit Go.Joins
set_option linter.unusedVariables false

theorem idxC_chq (n s : Nat) (hn : n ≤ 7) (hs : s ≤ 5) : ((idxC n s).length : Int) = chq n s := by
  have k : ((List.range 8).all fun n => (List.range 6).all fun s => decide (((idxC n s).length : Int) = chq n s)) = true := by decide +kernel
  have k1 := List.all_eq_true.1 k n (List.mem_range.2 (by omega))
  have k2 := List.all_eq_true.1 k1 s (List.mem_range.2 (by omega))
  exact of_decide_eq_true k2
theorem hRows_sum (hs bs : List Int) (l : Nat) (hh : hs.length ≤ 7) (hb : bs.length ≤ 7) : ∀ M, l + M ≤ 6 → ((hRows hs bs l M).length : Int) = sumH hs.length bs.length l M
  | 0, _ => by simp [hRows_zero, sumH]
  | M + 1, h => by
    have ih := hRows_sum hs bs l hh hb M (by omega)
    rw [hRows_succ, hRow_len, sumH, ← ih, ← idxC_chq _ _ hh (by omega), ← idxC_chq _ _ hb (by omega)]
    push_cast
    rfl
/-- What the law asks of all hands where the code is 0. -/
theorem allowed_facts {h l m b : Int} {hi : Bool} {lo : Int} {hs bs : List Int} (h0 : codeH h l m b hi lo hs bs = 0) :
    chR h l m b hi lo = (nH 0 l m hs bs : Int) ∧ varC h l m b hi lo = 0 ∧ ∀ j, j < nH 0 l m hs bs → (rH l m hs bs j).length = 5 ∧ (l ≤ (ownN hs (rH l m hs bs j) : Int) ∧ (ownN hs (rH l m hs bs j) : Int) ≤ m) ∧ ∀ y ∈ rH l m hs bs j, y ∈ hs ∨ y ∈ bs := by
  obtain ⟨hv, e1, e2⟩ := code_zero h0
  subst e1
  subst e2
  obtain ⟨⟨f1, f2⟩, ⟨f3, f4⟩, ⟨f5, f6⟩, ⟨f7, f8⟩, f9⟩ := hasCards_iff.1 (isVar_cards hv)
  obtain ⟨l', rfl⟩ := Int.eq_ofNat_of_zero_le f5
  obtain ⟨m', rfl⟩ := Int.eq_ofNat_of_zero_le (Int.le_trans f5 f6)
  have hcc : cardsB (hs ++ bs) = true := by
    rw [codeH_cards hv] at h0
    split at h0
    · assumption
    · omega
  have hm : l' + (m' + 1 - l') ≤ 6 := by omega
  have en : nH 0 l' m' hs bs = (hRows hs bs l' (m' + 1 - l')).length := by unfold nH; rw [if_pos rfl]; rfl
  have er : ∀ j, rH l' m' hs bs j = (hRows hs bs l' (m' + 1 - l')).getD j [] := fun j => rfl
  refine ⟨?_, ?_, fun j hj => ?_⟩
  · rw [en, hRows_sum hs bs l' (by omega) (by omega) _ hm]
    unfold chR cntH
    rw [if_pos hv, show (((m' : Int) + 1 - (l' : Int)).toNat) = m' + 1 - l' by omega]
    rfl
  · unfold varC; rw [if_pos hv]
  · rw [en] at hj
    have hmem : rH l' m' hs bs j ∈ hRows hs bs l' (m' + 1 - l') := by
      rw [er, List.getD_eq_getElem?_getD, List.getElem?_eq_getElem hj]
      exact List.getElem_mem hj
    obtain ⟨⟨o1, o2⟩, o3⟩ := hRows_own hs bs l' (m' + 1 - l') (by omega) (by omega) hm (apart_cards hcc) _ hmem
    exact ⟨hRows_mem hs bs l' (by omega) (by omega) _ hm _ hmem, ⟨by omega, by omega⟩, o3⟩
/-- How many of the first p cards of a hand are hole cards. -/
def ownT (hs x : List Int) (p : Nat) : Nat := ownN hs (x.take p)
theorem ownT_yes {hs x : List Int} {p : Nat} (hp : p < x.length) (h : nth x p ∈ hs) : ownT hs x (p + 1) = ownT hs x p + 1 := by
  have e : x.take (p + 1) = x.take p ++ [nth x p] := by rw [List.take_add_one, List.getElem?_eq_getElem hp]; simp [nth, List.getD, List.getElem?_eq_getElem hp]
  unfold ownT ownN
  rw [e, List.countP_append]
  simp [h]
theorem ownT_no {hs x : List Int} {p : Nat} (hp : p < x.length) (h : nth x p ∉ hs) : ownT hs x (p + 1) = ownT hs x p := by
  have e : x.take (p + 1) = x.take p ++ [nth x p] := by rw [List.take_add_one, List.getElem?_eq_getElem hp]; simp [nth, List.getD, List.getElem?_eq_getElem hp]
  unfold ownT ownN
  rw [e, List.countP_append]
  simp [h]
set_option maxRecDepth 100000 in
set_option maxHeartbeats 4000000 in
theorem walkAllowed_in (a : Option Addr) (L c : Nat) (zs : Nat → Int) (w : World) (hL : L ≤ 4096) (hc : CodeIn w a L zs) :
    Calls Try.prog 3 #[.slice a L c] w (Fresh (.bool true) w) := by
  have HC := Lib.hid hc
  clear hc
  refine (callsIn_wide (n := 10)).1 ?_
  refine callsIn_of_wp Try.func3 rfl trivial ?_ rfl
  simp only [Try.ntmps3, List.size_toArray, List.length_cons, List.length_nil, Nat.reduceAdd, Nat.reduceSub, Array.replicate_succ, Array.replicate_zero, List.push_toArray, List.append_toArray, List.nil_append, List.cons_append]
  gi_wp2_with (refine ⟨trivial, ?_⟩; gi_at_call 13; ((with_reducible refine (callsIn_wide.2 (big_no _ _ _ _ hL)).mono ?_); rintro e w0 ⟨rfl, rfl⟩))
  gi_wp2_with (refine ⟨trivial, ?_⟩; gi_at_call 14; ((with_reducible refine (callsIn_wide.2 (drawHandsIn_any _ _ _ zs _ hL HC.out)).mono ?_); rintro e w1 ⟨h, l, m, b, hi, lo, A, cc, hs, A2, c2, bs, rfl, hmb, hl1, hl2, hc1, hc2, hr1, hr2, hb1⟩; have R1 := Lib.hid hr1; have R2 := Lib.hid hr2; have B1 := Lib.hid hb1; have N1 := Lib.hid (blk_new w1 25 [.int .i64 h, .int .i64 l, .int .i64 m, .int .i64 b, .bool hi, .int .i64 lo]); obtain ⟨q0, _⟩ := N1.out.cell 0 _ rfl; obtain ⟨q1, _⟩ := N1.out.cell 1 _ rfl; obtain ⟨q2, _⟩ := N1.out.cell 2 _ rfl; obtain ⟨q3, _⟩ := N1.out.cell 3 _ rfl; obtain ⟨q4, _⟩ := N1.out.cell 4 _ rfl; obtain ⟨q5, _⟩ := N1.out.cell 5 _ rfl; have X1 := Lib.hid (bl_alloc (bl_refl w1) (.cells ([.int .i64 h, .int .i64 l, .int .i64 m, .int .i64 b, .bool hi, .int .i64 lo] : List Value).toArray 25)); unfold vV; clear hr1 hr2 hb1))
  have hm64 : i64B m := by unfold i64B; omega
  have KU := Lib.hid (fun W : World => implIsVar_any h l m b hi lo W hm64)
  have KW := Lib.hid (fun W : World => specIsVar_any h l m b hi lo W hm64)
  obtain ⟨H, R, k, n, cd, hH, hrw, hfin, KI, KS, KA, KB⟩ : ∃ (H : Nat) (R : Nat → List Int) (k n cd : Int), H ≤ 7350 ∧ Hid (∀ j, j < H → (R j).length ≤ 4000000) ∧ Hid (k = 0 → n = (H : Int) ∧ ∀ j, j < H → (R j).length = 5 ∧ (l ≤ (ownN hs (R j) : Int) ∧ (ownN hs (R j) : Int) ≤ m) ∧ ∀ y ∈ R j, y ∈ hs ∨ y ∈ bs) ∧
      Hid (∀ W : World, Rd W A hs → Rd W A2 bs → Calls Try.prog 15 #[vV h l m b hi lo, .slice A hs.length cc, .slice A2 bs.length c2] W (NewFam H R k W)) ∧
      Hid (∀ W : World, Rd W A hs → Rd W A2 bs → Calls Try.prog 16 #[vV h l m b hi lo, .slice A hs.length cc, .slice A2 bs.length c2] W (NewFam H R k W)) ∧
      Hid (∀ W : World, Calls Try.prog 17 #[vV h l m b hi lo] W (Fresh (pairV n cd) W)) ∧ Hid (∀ W : World, Calls Try.prog 18 #[vV h l m b hi lo] W (Fresh (pairV n cd) W)) := by
    have hbd := hands_bd (h := h) (l := l) (m := m) (b := b) (hi := hi) (lo := lo) (hs := hs) (bs := bs)
    refine ⟨nH (codeH h l m b hi lo hs bs) l m hs bs, rH l m hs bs, codeH h l m b hi lo hs bs, _, _, hbd.1, Lib.hid (fun j hj => ?_), Lib.hid (fun h0 => ?_), Lib.hid (fun W h1 h2 => implHandsIn_any h l m b hi lo A cc hs A2 c2 bs W hm64 h1 h2 (by omega) (by omega)), Lib.hid (fun W h1 h2 => specHandsIn_any h l m b hi lo A cc hs A2 c2 bs W hm64 h1 h2 (by omega) (by omega) hc1 hc2), Lib.hid (fun W => implCountHands_any h l m b hi lo W hm64), Lib.hid (fun W => specCountHands_any h l m b hi lo W hm64)⟩
    · by_cases h0 : codeH h l m b hi lo hs bs = 0
      · have := hbd.2 h0 j; omega
      · rw [nH_no h0] at hj; omega
    · obtain ⟨e1, _, e3⟩ := allowed_facts h0
      rw [h0]
      exact ⟨e1, e3⟩
  have hH4 : H ≤ 4000000 := by omega
  generalize isVarB h l m b hi lo = vB at *
  unfold vV at KU KW KI KS KA KB
  gi_wp2_with (refine ⟨trivial, ?_⟩; gi_at_call 15; ((with_reducible refine (callsIn_wide.2 (KI.out _ (R1.out.below X1.out) (R2.out.below X1.out))).mono ?_); rintro e w2 ⟨A4, c4, AA4, CC4, rfl, hf, hb⟩; have F2 := Lib.hid hf; clear q0 q1 q2 q3 q4 q5; have N2 := Lib.hid (N1.out.below hb); obtain ⟨q0, _⟩ := N2.out.cell 0 _ rfl; obtain ⟨q1, _⟩ := N2.out.cell 1 _ rfl; obtain ⟨q2, _⟩ := N2.out.cell 2 _ rfl; obtain ⟨q3, _⟩ := N2.out.cell 3 _ rfl; obtain ⟨q4, _⟩ := N2.out.cell 4 _ rfl; obtain ⟨q5, _⟩ := N2.out.cell 5 _ rfl; have X2 := Lib.hid (bl_trans X1.out hb); clear hf hb))
  gi_wp2_with (refine ⟨trivial, ?_⟩; gi_at_call 16; ((with_reducible refine (callsIn_wide.2 (KS.out _ (R1.out.below X2.out) (R2.out.below X2.out))).mono ?_); rintro e w3 ⟨A5, c5, AA5, CC5, rfl, hf, hb⟩; have G3 := Lib.hid hf; have F3 := Lib.hid (F2.out.below hb); clear q0 q1 q2 q3 q4 q5; have N3 := Lib.hid (N2.out.below hb); obtain ⟨q0, _⟩ := N3.out.cell 0 _ rfl; obtain ⟨q1, _⟩ := N3.out.cell 1 _ rfl; obtain ⟨q2, _⟩ := N3.out.cell 2 _ rfl; obtain ⟨q3, _⟩ := N3.out.cell 3 _ rfl; obtain ⟨q4, _⟩ := N3.out.cell 4 _ rfl; obtain ⟨q5, _⟩ := N3.out.cell 5 _ rfl; have X3 := Lib.hid (bl_trans X2.out hb); clear hf hb))
  gi_wp2_with (refine ⟨trivial, ?_⟩; gi_at_call 17; ((with_reducible refine (callsIn_wide.2 (KA.out _)).mono ?_); rintro e w4 ⟨rfl, hb⟩; have G4 := Lib.hid (G3.out.below hb); have F4 := Lib.hid (F3.out.below hb); clear q0 q1 q2 q3 q4 q5; have N4 := Lib.hid (N3.out.below hb); obtain ⟨q0, _⟩ := N4.out.cell 0 _ rfl; obtain ⟨q1, _⟩ := N4.out.cell 1 _ rfl; obtain ⟨q2, _⟩ := N4.out.cell 2 _ rfl; obtain ⟨q3, _⟩ := N4.out.cell 3 _ rfl; obtain ⟨q4, _⟩ := N4.out.cell 4 _ rfl; obtain ⟨q5, _⟩ := N4.out.cell 5 _ rfl; have X4 := Lib.hid (bl_trans X3.out hb); clear hb))
  gi_wp2_with (refine ⟨trivial, ?_⟩; gi_at_call 18; ((with_reducible refine (callsIn_wide.2 (KB.out _)).mono ?_); rintro e w5 ⟨rfl, hb⟩; have G5 := Lib.hid (G4.out.below hb); have F5 := Lib.hid (F4.out.below hb); clear q0 q1 q2 q3 q4 q5; have N5 := Lib.hid (N4.out.below hb); obtain ⟨q0, _⟩ := N5.out.cell 0 _ rfl; obtain ⟨q1, _⟩ := N5.out.cell 1 _ rfl; obtain ⟨q2, _⟩ := N5.out.cell 2 _ rfl; obtain ⟨q3, _⟩ := N5.out.cell 3 _ rfl; obtain ⟨q4, _⟩ := N5.out.cell 4 _ rfl; obtain ⟨q5, _⟩ := N5.out.cell 5 _ rfl; have X5 := Lib.hid (bl_trans X4.out hb); clear hb))
  have hz5 : w1.heap.size < w5.heap.size := N5.out.lt
  have hmx : Try.prog.follows .mixedOrders = true := by kernel_rfl
  gi_wp2
  refine wpIn_region_any hmx ?_
  refine wpAnyIn_S (S := fun W' => Below w5.heap.size w5 W') (last := 25) (m := 0) (k := 25) rfl (fun HC0 => ?_)
  have hS0 : Below w5.heap.size w5 { w5 with drawn := w5.drawn + 1 } := bl_drew (bl_refl w5)
  obtain ⟨W5, eW5⟩ : ∃ W5 : World, W5 = { w5 with drawn := w5.drawn + 1 } := ⟨_, rfl⟩
  rw [← eW5] at hS0 ⊢
  clear eW5
  refine wpAnyS_take (i := 0) (kw := 9) (v := .int .i64 k) rfl rfl (by kernel_rfl) (by kernel_rfl) (by kernel_rfl) (by kernel_rfl) (fun _ _ _ h => h) HC0 hS0 ⟨Or.inl ⟨by kernel_rfl, fun W' hs => ?_⟩, fun _ => rfl⟩ (fun HC1 => ?_)
  · go_simp
  refine wpAnyS_take (i := 1) (kw := 9) (v := .int .i64 k) rfl rfl (by kernel_rfl) (by kernel_rfl) (by kernel_rfl) (by kernel_rfl) (fun _ _ _ h => h) HC1 hS0 ⟨Or.inl ⟨by kernel_rfl, fun W' hs => ?_⟩, fun _ => rfl⟩ (fun HC2 => ?_)
  · go_simp
  refine wpAnyS_take (i := 2) (kw := 8) (v := .bool false) rfl rfl (by kernel_rfl) (by kernel_rfl) (by kernel_rfl) (by kernel_rfl) (fun _ _ _ h => h) HC2 hS0 ⟨Or.inl ⟨by kernel_rfl, fun W' hs => ?_⟩, fun _ => rfl⟩ (fun HC3 => ?_)
  · go_simp
  refine wpAnyS_take (i := 3) (kw := 7) (v := .bool false) rfl rfl (by kernel_rfl) (by kernel_rfl) (by kernel_rfl) (by kernel_rfl) (fun _ _ _ h => h) HC3 hS0 ⟨Or.inl ⟨by kernel_rfl, fun W' hs => ?_⟩, fun _ => rfl⟩ (fun HC4 => ?_)
  · go_simp
  refine wpAnyS_take (i := 4) (kw := 9) (v := .slice A4 H c4) rfl rfl (by kernel_rfl) (by kernel_rfl) (by kernel_rfl) (by kernel_rfl) (fun _ _ _ h => h) HC4 hS0 ⟨Or.inl ⟨by kernel_rfl, fun W' hs => ?_⟩, fun _ => rfl⟩ (fun HC5 => ?_)
  · go_simp
  refine wpAnyS_take (i := 5) (kw := 9) (v := .slice A5 H c5) rfl rfl (by kernel_rfl) (by kernel_rfl) (by kernel_rfl) (by kernel_rfl) (fun _ _ _ h => h) HC5 hS0 ⟨Or.inl ⟨by kernel_rfl, fun W' hs => ?_⟩, fun _ => rfl⟩ (fun HC6 => ?_)
  · go_simp
  refine wpAnyS_one HC6 (i := 6) (by kernel_rfl) rfl hS0 (fun K hK => ?_)
  go_simp
  gi_wp2_with (refine ⟨trivial, ?_⟩; gi_at_call 19; refine (callsIn_wide.2 (likeFam_same A4 A5 c4 c5 H R AA4 AA5 CC4 CC5 _ _ _ (F5.out.below hS0) (G5.out.below hS0) hH4 hrw.out)).mono ?_; rintro e w6 ⟨rfl, hb6⟩)
  intro HC7
  have hS6 : Below w5.heap.size w5 w6 := hS0.trans (hb6.mono hS0.size)
  refine wpAnyS_take (i := 7) (kw := 7) (v := .bool false) rfl rfl (by kernel_rfl) (by kernel_rfl) (by kernel_rfl) (by kernel_rfl) (fun _ _ _ h => h) HC7 hS6 ⟨Or.inl ⟨by kernel_rfl, fun W' hs => ?_⟩, fun _ => rfl⟩ (fun HC8 => ?_)
  · go_simp
  refine wpAnyS_take (i := 8) (kw := 6) (v := .bool false) rfl rfl (by kernel_rfl) (by kernel_rfl) (by kernel_rfl) (by kernel_rfl) (fun _ _ _ h => h) HC8 hS6 ⟨Or.inl ⟨by kernel_rfl, fun W' hs => ?_⟩, fun _ => rfl⟩ (fun HC9 => ?_)
  · go_simp
  refine wpAnyS_take (i := 9) (kw := 5) (v := .bool false) rfl rfl (by kernel_rfl) (by kernel_rfl) (by kernel_rfl) (by kernel_rfl) (fun _ _ _ h => h) HC9 hS6 ⟨Or.inl ⟨by kernel_rfl, fun W' hs => ?_⟩, fun _ => rfl⟩ (fun HC10 => ?_)
  · go_simp
  refine wpAnyS_take (i := 10) (kw := 6) (v := .int .i64 cd) rfl rfl (by kernel_rfl) (by kernel_rfl) (by kernel_rfl) (by kernel_rfl) (fun _ _ _ h => h) HC10 hS6 ⟨Or.inl ⟨by kernel_rfl, fun W' hs => ?_⟩, fun _ => rfl⟩ (fun HC11 => ?_)
  · go_simp
  refine wpAnyS_take (i := 11) (kw := 6) (v := .int .i64 cd) rfl rfl (by kernel_rfl) (by kernel_rfl) (by kernel_rfl) (by kernel_rfl) (fun _ _ _ h => h) HC11 hS6 ⟨Or.inl ⟨by kernel_rfl, fun W' hs => ?_⟩, fun _ => rfl⟩ (fun HC12 => ?_)
  · go_simp
  refine wpAnyS_take (i := 12) (kw := 5) (v := .bool false) rfl rfl (by kernel_rfl) (by kernel_rfl) (by kernel_rfl) (by kernel_rfl) (fun _ _ _ h => h) HC12 hS6 ⟨Or.inl ⟨by kernel_rfl, fun W' hs => ?_⟩, fun _ => rfl⟩ (fun HC13 => ?_)
  · go_simp
  refine wpAnyS_take (i := 13) (kw := 4) (v := .bool false) rfl rfl (by kernel_rfl) (by kernel_rfl) (by kernel_rfl) (by kernel_rfl) (fun _ _ _ h => h) HC13 hS6 ⟨Or.inl ⟨by kernel_rfl, fun W' hs => ?_⟩, fun _ => rfl⟩ (fun HC14 => ?_)
  · go_simp
  refine wpAnyS_take (i := 14) (kw := 3) (v := .bool false) rfl rfl (by kernel_rfl) (by kernel_rfl) (by kernel_rfl) (by kernel_rfl) (fun _ _ _ h => h) HC14 hS6 ⟨Or.inl ⟨by kernel_rfl, fun W' hs => ?_⟩, fun _ => rfl⟩ (fun HC15 => ?_)
  · go_simp
  refine wpAnyS_take (i := 15) (kw := 4) (v := .int .i64 n) rfl rfl (by kernel_rfl) (by kernel_rfl) (by kernel_rfl) (by kernel_rfl) (fun _ _ _ h => h) HC15 hS6 ⟨Or.inl ⟨by kernel_rfl, fun W' hs => ?_⟩, fun _ => rfl⟩ (fun HC16 => ?_)
  · go_simp
  refine wpAnyS_take (i := 16) (kw := 4) (v := .int .i64 n) rfl rfl (by kernel_rfl) (by kernel_rfl) (by kernel_rfl) (by kernel_rfl) (fun _ _ _ h => h) HC16 hS6 ⟨Or.inl ⟨by kernel_rfl, fun W' hs => ?_⟩, fun _ => rfl⟩ (fun HC17 => ?_)
  · go_simp
  refine wpAnyS_take (i := 17) (kw := 3) (v := .bool false) rfl rfl (by kernel_rfl) (by kernel_rfl) (by kernel_rfl) (by kernel_rfl) (fun _ _ _ h => h) HC17 hS6 ⟨Or.inl ⟨by kernel_rfl, fun W' hs => ?_⟩, fun _ => rfl⟩ (fun HC18 => ?_)
  · go_simp
  refine wpAnyS_take (i := 18) (kw := 2) (v := .bool false) rfl rfl (by kernel_rfl) (by kernel_rfl) (by kernel_rfl) (by kernel_rfl) (fun _ _ _ h => h) HC18 hS6 ⟨Or.inl ⟨by kernel_rfl, fun W' hs => ?_⟩, fun _ => rfl⟩ (fun HC19 => ?_)
  · go_simp
  refine wpAnyS_take (i := 19) (kw := 1) (v := .bool false) rfl rfl (by kernel_rfl) (by kernel_rfl) (by kernel_rfl) (by kernel_rfl) (fun _ _ _ h => h) HC19 hS6 ⟨Or.inl ⟨by kernel_rfl, fun W' hs => ?_⟩, fun _ => rfl⟩ (fun HC20 => ?_)
  · go_simp
  refine wpAnyS_take (i := 20) (kw := 3) (v := .agg #[.int .i64 h, .int .i64 l, .int .i64 m, .int .i64 b, .bool hi, .int .i64 lo]) rfl rfl (by kernel_rfl) (by kernel_rfl) (by kernel_rfl) (by kernel_rfl) (fun _ _ _ h => h) HC20 hS6 ⟨Or.inl ⟨by kernel_rfl, fun W' hs => ?_⟩, fun _ => rfl⟩ (fun HC21 => ?_)
  · have c0 := ((bcell hs).1 w1.heap.size 0 hz5).trans q0; have c1 := ((bcell hs).1 w1.heap.size 1 hz5).trans q1; have c2 := ((bcell hs).1 w1.heap.size 2 hz5).trans q2; have c3 := ((bcell hs).1 w1.heap.size 3 hz5).trans q3; have c4 := ((bcell hs).1 w1.heap.size 4 hz5).trans q4; have c5 := ((bcell hs).1 w1.heap.size 5 hz5).trans q5; go_simp
  refine wpAnyS_take (i := 22) (kw := 3) (v := .agg #[.int .i64 h, .int .i64 l, .int .i64 m, .int .i64 b, .bool hi, .int .i64 lo]) rfl rfl (by kernel_rfl) (by kernel_rfl) (by kernel_rfl) (by kernel_rfl) (fun _ _ _ h => h) HC21 hS6 ⟨Or.inl ⟨by kernel_rfl, fun W' hs => ?_⟩, fun _ => rfl⟩ (fun HC22 => ?_)
  · have c0 := ((bcell hs).1 w1.heap.size 0 hz5).trans q0; have c1 := ((bcell hs).1 w1.heap.size 1 hz5).trans q1; have c2 := ((bcell hs).1 w1.heap.size 2 hz5).trans q2; have c3 := ((bcell hs).1 w1.heap.size 3 hz5).trans q3; have c4 := ((bcell hs).1 w1.heap.size 4 hz5).trans q4; have c5 := ((bcell hs).1 w1.heap.size 5 hz5).trans q5; go_simp
  refine wpAnyS_one HC22 (i := 21) (by kernel_rfl) rfl hS6 (fun K hK => ?_)
  go_simp
  gi_wp2_with (refine ⟨trivial, ?_⟩; gi_at_call 20; refine (callsIn_wide.2 (KU.out _)).mono ?_; rintro e w7 ⟨rfl, hb7⟩)
  intro HC23
  have hS7 : Below w5.heap.size w5 w7 := hS6.trans (hb7.mono hS6.size)
  refine wpAnyS_one HC23 (i := 23) (by kernel_rfl) rfl hS7 (fun K hK => ?_)
  go_simp
  gi_wp2_with (refine ⟨trivial, ?_⟩; gi_at_call 21; refine (callsIn_wide.2 (KW.out _)).mono ?_; rintro e w8 ⟨rfl, hb8⟩)
  intro HC24
  have hS8 : Below w5.heap.size w5 w8 := hS7.trans (hb8.mono hS7.size)
  refine wpAnyS_take (i := 24) (kw := 1) (v := .bool false) rfl rfl (by kernel_rfl) (by kernel_rfl) (by kernel_rfl) (by kernel_rfl) (fun _ _ _ h => h) HC24 hS8 ⟨Or.inl ⟨by kernel_rfl, fun W' hs => ?_⟩, fun _ => rfl⟩ (fun HC25 => ?_)
  · go_simp
  refine wpAnyS_last (by kernel_rfl) (by kernel_rfl) rfl hS8 (fun K hK => ?_)
  go_simp
  refine hK _ _ ?_
  clear hK K
  have F8 := Lib.hid (F5.out.below hS8)
  have R8 := Lib.hid (R1.out.below (bl_trans X5.out hS8))
  have Q8 := Lib.hid (R2.out.below (bl_trans X5.out hS8))
  have N8 := Lib.hid (N5.out.below hS8)
  have B8 := Lib.hid (bl_trans (bl_trans B1.out X5.out) hS8)
  have sl := (N8.out.cell 1 _ rfl).1
  have sm := (N8.out.cell 2 _ rfl).1
  clear hS0 hS6 hS7 hS8 hb6 hb7 hb8 HC0 HC1 HC2 HC3 HC4 HC5 HC6 HC7 HC8 HC9 HC10 HC11 HC12 HC13 HC14 HC15 HC16 HC17 HC18 HC19 HC20 HC21 HC22 HC23 HC24 HC25 q0 q1 q2 q3 q4 q5 KU KW KI KS KA KB
  by_cases hk0 : k = 0
  · subst hk0
    obtain ⟨rfl, hrow⟩ := hfin.out rfl
    have HW := Lib.hid hrow
    clear hrow hfin
    have KY := Lib.hid (fun (x : Int) (hx : x ∈ hs) => hasInt_yes A cc hs x w8 R8.out (by omega) hx)
    have KN := Lib.hid (fun (x : Int) (hx : x ∉ hs) => hasInt_no A cc hs x w8 R8.out (by omega) hx)
    have KZ := Lib.hid (fun (x : Int) (hx : x ∈ bs) => hasInt_yes A2 c2 bs x w8 Q8.out (by omega) hx)
    gi_wp2
    gi_loopw [14, 15, 16] (fun i o p wr => ∃ q : Nat, q ≤ H ∧ i = .int .i64 q ∧ wr = w8) (fun i _ _ _ => H - (intOf i).toNat)
    case atStart => exact ⟨0, by omega, rfl, rfl⟩
    case round =>
      obtain ⟨q, hq, rfl, rfl⟩ := hrel
      by_cases hlt : q < H
      · have hlt' : (q : Int) < H := by omega
        obtain ⟨h5, ⟨ho1, ho2⟩, hin⟩ := HW.out q hlt
        obtain ⟨g, o, rfl, hck⟩ := F8.out.at_ (bl_refl _) q hlt
        obtain ⟨gb, off, eA, hcell⟩ := (F8.out.row q hlt).rd (by omega)
        rw [h5, eA] at hck
        have HI := Lib.hid hin
        have HCE := Lib.hid hcell
        obtain ⟨xs, ex⟩ : ∃ xs, xs = R q := ⟨_, rfl⟩
        rw [← ex] at ho1 ho2 HI HCE h5
        have e5 : ownT hs xs 5 = ownN hs xs := by unfold ownT; rw [List.take_of_length_le (by omega)]
        rw [← e5] at ho1 ho2
        clear hin hcell ex e5
        have EZ : ownT hs xs 0 = 0 := rfl
        gi_wp2
        obtain ⟨wc, ewc⟩ : ∃ wc, wc = wr := ⟨_, rfl⟩
        rw [← ewc]
        rw [← ewc] at hck HCE KY KN KZ sl sm B8
        have EW := Lib.hid ewc
        clear ewc R8 Q8 F8 N8
        gi_loopw [15, 16] (fun u p w9 => ∃ t : Nat, t ≤ 5 ∧ p = .int .i64 t ∧ u = .int .i64 (ownT hs xs t : Nat) ∧ w9 = wc) (fun _ p _ => 5 - (intOf p).toNat)
        case atStart => exact ⟨0, by omega, rfl, rfl, rfl⟩
        case round =>
          obtain ⟨t, ht, rfl, rfl, rfl⟩ := hrel
          by_cases hl5 : t < 5
          · have hl5' : (t : Int) < 5 := by omega
            have hct := HCE.out t (by omega)
            have hin := HI.out (nth xs t) (by unfold nth; rw [List.getD_eq_getElem?_getD, List.getElem?_eq_getElem (by omega)]; exact List.getElem_mem (by omega))
            by_cases hy : nth xs t ∈ hs
            · have EY := Lib.hid (ownT_yes (by omega) hy)
              have K1 := Lib.hid (KY.out _ hy)
              have hb := hmb
              have hob : (ownT hs xs t : Int) ≤ 100 := by unfold ownT ownN; have := List.countP_le_length (p := fun y => hs.contains y) (l := xs.take t); rw [List.length_take] at this; omega
              generalize nth xs t = y at *
              obtain ⟨z, ez⟩ : ∃ z, z = ownT hs xs t := ⟨_, rfl⟩
              rw [← ez] at EY hob
              simp only [← ez]
              clear hin hy
              gi_wp2_with (refine ⟨trivial, ?_⟩; gi_at_call 22; ((with_reducible refine (callsIn_wide.2 K1.out).mono ?_); rintro e w10 ⟨rfl, rfl⟩))
              go_roundw
              case rel => exact ⟨t + 1, by omega, by go_num, by first | (rw [EY.out]; go_num) | (rw [EY.out, ez]; go_num), trivial⟩
              case measure => simp [intOf]; omega
            · have EY := Lib.hid (ownT_no (by omega) hy)
              have K1 := Lib.hid (KN.out _ hy)
              have K2 := Lib.hid (KZ.out _ (hin.resolve_left hy))
              generalize nth xs t = y at *
              obtain ⟨z, ez⟩ : ∃ z, z = ownT hs xs t := ⟨_, rfl⟩
              rw [← ez] at EY
              simp only [← ez]
              clear hin hy
              gi_wp2_with (first
                | (refine ⟨trivial, ?_⟩; gi_at_call 22; ((with_reducible refine (callsIn_wide.2 K1.out).mono ?_); rintro e w10 ⟨rfl, rfl⟩))
                | (refine ⟨trivial, ?_⟩; gi_at_call 22; ((with_reducible refine (callsIn_wide.2 K2.out).mono ?_); rintro e w10 ⟨rfl, rfl⟩)))
              go_roundw
              case rel => exact ⟨t + 1, by omega, by go_num, by first | (rw [EY.out, ez]; done) | (rw [EY.out]; done), trivial⟩
              case measure => simp [intOf]; omega
          · obtain rfl : t = 5 := by omega
            generalize ownT hs xs 5 = z at *
            have g1 : decide ((z : Int) < l) = false := decide_eq_false (by omega)
            have g2 : decide (m < (z : Int)) = false := decide_eq_false (by omega)
            gi_wp2
            refine ⟨⟨q + 1, by omega, by go_num, EW.out⟩, ?_⟩
            simp [intOf]
            omega
      · obtain rfl : q = H := by omega
        gi_wp2
        go_ret
        exact ⟨rfl, B8.out⟩
  · have hk : (k == 0) = false := by simp [hk0]
    gi_wp2
    go_ret
    exact ⟨rfl, B8.out⟩

set_option maxRecDepth 100000 in
set_option maxHeartbeats 400000 in
theorem walkAllowed_big (a : Option Addr) (L c : Nat) (w : World) (hm : L ≤ maxLen) (h : 4096 < L) :
    Calls Try.prog 3 #[.slice a L c] w (Fresh (.bool true) w) := by
  unfold maxLen at hm
  go_enter Try.func3, Try.ntmps3
  go_wp2_with (go_at_call 13; refine (big_yes _ _ _ _ h (by omega)).mono ?_; rintro e w0 ⟨rfl, rfl⟩)
  go_ret
  exact ⟨rfl, bl_refl _⟩
theorem walkAllowed (a : Option Addr) (L c : Nat) (zs : Nat → Int) (w : World) (hm : L ≤ maxLen) (hc : CodeIn w a L zs) :
    Calls Try.prog 3 #[.slice a L c] w (Fresh (.bool true) w) := by
  by_cases h : L ≤ 4096
  · exact walkAllowed_in a L c zs w h hc
  · exact walkAllowed_big a L c w hm (by omega)

set_option maxRecDepth 100000 in
theorem fnAllowedHands_lifted (os : Os) (started : os.Started) (H : Type) (enc : TypeId × Value → H) :
    ReturnsInHanded {} Try.checked os 3 .any (Rows.fnAllowedHandsSpec.pre6 enc Try.prog Try.f3 Rows.fnAllowedHandsRow.domain false) (Rows.fnAllowedHandsSpec.post enc Try.prog Try.f3 false true false false) := by
  refine law_lifted started (by kernel_rfl) Try.func3 (by kernel_rfl) rfl (fun ds h => ?_) ?_
    (ChangeSpec.witness6 (enc := enc) (C := Try.checked) false ⟨#[], #[.slice none 0 0], []⟩ 8 (by kernel_rfl) (by kernel_rfl) (by kernel_rfl) (by kernel_rfl)) ?_
  · match ds, h with
    | [d0], _ => rfl
  · rw [Try.params3]
    intro t ht
    obtain rfl : t = 22 := by simpa using ht
    exact ⟨by kernel_rfl, of_decide_eq_true (by kernel_rfl)⟩
  · intro W base args ds ps hval hA
    rw [Try.params3] at hA hval
    obtain ⟨v0, d0, rfl, rfl, h0⟩ := trodAll_one hA
    obtain ⟨A0, L0, c0, zs0, rfl, m0, r0⟩ := open_code (hval 0 22 v0 rfl rfl) h0
    exact walkAllowed A0 L0 c0 zs0 W m0 r0

/-- The hands of a variant are those that it allows, and as many as told, for every code. -/
theorem fnAllowedHands_holds : Rows.FnAllowedHandsSaid :=
  OpenClaim.holds_of_wide 3 Try.f3 rfl rfl rfl rfl rfl rfl rfl ⟨rfl, rfl, rfl, rfl, rfl⟩ rfl rfl rfl rfl rfl (by kernel_rfl) Try.func3 (by kernel_rfl)
    (of_decide_eq_true (by kernel_rfl)) (by unfold Func.isWrapper; first | (rw [if_pos (by decide +kernel)]; kernel_rfl) | (rw [if_neg (by decide +kernel)]; exact ⟨rfl, rfl⟩))
    (fun os started H enc _ => fnAllowedHands_lifted os started H enc)

end Go.Proofs.Ytjmfecjgomkofaa
