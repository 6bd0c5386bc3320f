/-
  The model's l07Images: what a list of cards becomes by all exchanges.
-/
import Derived.Test.YtilbkgnjgmlhjaaDoorSuits
import Derived.Test.YtilbkgnjgmlhjaaDoorSortSpec
import Derived.Test.YtilbkgnjgmlhjaaDoorAnyR
namespace Go.Proofs.YtilbkgnjgmlhjaaDoor
open Go.RowKit
set_option linter.unusedVariables false

/-- An exchange by its number (as SuitOrbit names it); a list's image, sorted. -/
def imgS (xs : List Int) (k : Nat) : List Int := sortA (img ((exN 256).getD k []) xs)
theorem imgS_len (xs : List Int) (k : Nat) : (imgS xs k).length = xs.length := by
  unfold imgS
  rw [(sortA_facts _).1.length_eq]
  unfold img; rw [List.length_map]
theorem isX_at {k : Nat} (h : k < 24) : IsX ((exN 256).getD k []) := by
  have hl : k < (exN 256).length := by rw [exN_len]; exact h
  refine isX_mem (n := 256) (Nat.le_refl _) ?_
  rw [List.getD_eq_getElem?_getD, List.getElem?_eq_getElem hl]
  exact List.getElem_mem hl
theorem img_snoc (e xs : List Int) (k : Nat) (hk : k < xs.length) : img e (xs.take (k + 1)) = img e (xs.take k) ++ [imgC e (nth xs k)] := by
  unfold img; rw [take_nth xs k hk, List.map_append]; rfl

theorem wrapI (x : Int) (h : -9223372036854775808 ≤ x ∧ x ≤ 9223372036854775807) : IntKind.i64.wrap x = x := by rw [IntKind.wrap_i64]; omega
/-- append to a list, as one operation of a region that draws. -/
theorem opwp_glueI {o : Oper} {a : Act} {w : World} {K : Act → World → Prop} {Q : Exit → Act → World → Prop} (s x : Operand)
    (ho : o.op = .call { callee := .builtin .append, args := #[s, x], argTypes := #[24, 24] })
    (lo : Nat) (v : Value) (xs ys : List Int) (A : Option Addr) (c : Nat) (hs : a.eval s = v) (hown : Own w lo v xs) (hx : a.eval x = .slice A ys.length c) (hsrc : Rd w A ys) (hb : xs.length + ys.length ≤ 4000000) (hlo : lo ≤ w.heap.size)
    (h : ∀ A' c' ws w', Hid (ws = xs ++ ys) → Own w' lo (.slice A' ws.length c') ws → w.grownBy w' v.ownBlock → K (a.put o.dst (.slice A' ws.length c')) w') : Oper.wp Tryd.prog o a w K Q := by
  obtain ⟨v', w', hr, h4, h3, h6⟩ := run_glue w o.type lo v xs ys A c hown hsrc hb hlo
  obtain ⟨A', c', rfl, h5⟩ := own_form h4
  unfold Oper.wp execOp
  simp only [ho, resolve, invoke, builtin, Sem.run_bind, Sem.run_pure, Result.andThen_ok, List.map_toArray, List.map_cons, List.map_nil, hs, hx, hr]
  exact h A' c' _ w' (Lib.hid rfl) h5 h3

set_option maxRecDepth 100000 in
set_option maxHeartbeats 4000000 in
theorem l07Images_any (A : Option Addr) (c : Nat) (xs : List Int) (w : World) (hr : Rd w A xs) (hc : cardsB xs = true) :
    Calls Tryd.prog 101 #[.slice A xs.length c] w (NewFam1 24 (imgS xs) w) := by
  have HR := Lib.hid hr
  have KU := Lib.hid l07Suits_any
  have KT := Lib.hid sorted_any
  have HN : xs.length ≤ 52 := deck_len xs hc
  have HX := Lib.hid ((cards_iff xs).1 hc).1
  have HIS := Lib.hid (fun k (h : k < 24) => isX_at h)
  have HSL := Lib.hid (imgS_len xs)
  have HSN := Lib.hid (fun e k h => img_snoc e xs k h)
  have HSD : Hid (∀ k, imgS xs k = sortA (img ((exN 256).getD k []) xs)) := Lib.hid (fun k => rfl)
  have hmx : Tryd.prog.follows .mixedOrders = true := by kernel_rfl
  clear hr hc
  obtain ⟨w0, rfl⟩ : ∃ w0 : World, w0 = w := ⟨w, rfl⟩
  generalize imgS xs = R at *
  generalize hF : (fun k => (exN 256).getD k []) = F at *
  have HF : Hid (∀ k, (exN 256).getD k [] = F k) := Lib.hid (fun k => congrFun hF k)
  clear hF
  go_enter Tryd.func101, Tryd.ntmps101
  go_wp2_with (go_at_call 119; refine (KU.out _).mono ?_; rintro e w1 ⟨A1, c1, AA1, CC1, rfl, hf1, hb1⟩
               have HF1 := Lib.hid hf1; have HB1 := Lib.hid hb1; have HS0 := Lib.hid (hang_start w1 xs.length R (fun _ => none) (fun _ => 0)); clear hf1 hb1)
  go_loopw [4, 5] (fun v i wr => ∃ (m : Nat) (AA : Nat → Option Addr) (CC : Nat → Nat), m ≤ 24 ∧ i = .int .i64 m ∧ Hid (Hang w1 m xs.length R AA CC v wr)) (fun _ i _ => 24 - (intOf i).toNat)
  case atStart => exact ⟨0, _, _, Nat.zero_le _, rfl, HS0⟩
  case round =>
    obtain ⟨m, AA, CC, hm, rfl, hh⟩ := hrel
    by_cases hlt : m < 24
    · have hlt' : (m : Int) < 24 := by omega
      have hix := HIS.out m hlt
      have HEM := HF.out m
      have HSM := Lib.hid (HSD.out m)
      obtain ⟨gU, oU, rfl, hU⟩ := HF1.out.at_ hh.out.below m hlt
      have hru := (HF1.out.row m hlt).rd
      rw [HEM] at HSM hix
      generalize F m = e at *
      have HE := Lib.hid hix
      have HU := Lib.hid hU
      have HRU := Lib.hid hru
      have HUL : Hid (gU < wr.heap.size) := Lib.hid (World.block_lt_of_cell? wr _ hU)
      obtain ⟨wo, rfl⟩ : ∃ wo : World, wo = wr := ⟨wr, rfl⟩
      go_wp2_with fail
      have HO0 : Hid (Own (wo.alloc (.cells #[] 2)) wo.heap.size (.slice (some ⟨wo.heap.size, 0, none⟩) 0 0) (img e (xs.take 0)) ∧ Below wo.heap.size wo (wo.alloc (.cells #[] 2))) := Lib.hid ⟨own_new wo, bl_alloc (bl_refl _) _⟩
      go_loopw [6, 7] (fun v2 i wx => ∃ (k : Nat), k ≤ xs.length ∧ i = .int .i64 k ∧ Hid (Own wx wo.heap.size v2 (img e (xs.take k)) ∧ Below wo.heap.size wo wx)) (fun _ i _ => xs.length - (intOf i).toNat)
      case atStart => exact ⟨0, Nat.zero_le _, rfl, HO0⟩
      case round =>
        obtain ⟨k, hk, rfl, ho⟩ := hrel
        by_cases hkl : k < xs.length
        · have hkl' : (k : Int) < xs.length := by omega
          go_wp2_with fail
          have hx := HX.out _ (nth_mem xs k hkl)
          have HSK := Lib.hid (HSN.out e k hkl)
          obtain ⟨bL, oL, rfl, hcl⟩ := HR.out.at_ (bl_trans HB1.out hh.out.below) k hkl
          have HBL := Lib.hid (World.block_lt_of_cell? wo _ hcl)
          have hcu := HU.out
          obtain ⟨j, hj⟩ := Int.eq_ofNat_of_zero_le (show (0 : Int) ≤ nth xs k % 4 by omega)
          have hj4 : j < 4 := by omega
          have hj4' : (j : Int) < 4 := by omega
          obtain ⟨b2, o2, e2, hce⟩ := HRU.out.at_ hh.out.below j (by rw [HE.out.1]; exact hj4)
          have HB2 := Lib.hid (World.block_lt_of_cell? wo _ hce)
          rw [e2, HE.out.1] at hcu
          have hy := HE.out.2.1 j hj4
          have EQ : Hid (nth xs k / 4 * 4 + e.getD j 0 = imgC e (nth xs k)) := Lib.hid (by unfold imgC; rw [hj]; show _ = 4 * _ + e.getD (j : Int).toNat 0; rw [Int.toNat_natCast]; omega)
          have ey : nth e j = e.getD j 0 := rfl
          rw [ey] at hce
          clear ey
          generalize e.getD j 0 = y at *
          generalize nth xs k = x at *
          generalize CC1 m = cc at *
          obtain ⟨hx0, hx1⟩ := hx
          obtain ⟨hy0, hy1⟩ := hy
          have hxd : 0 ≤ x / 4 := by omega
          have hxd' : x / 4 ≤ 12 := by omega
          have hxm : 0 ≤ x / 4 * 4 := by omega
          have hxm' : x / 4 * 4 ≤ 48 := by omega
          obtain ⟨X, eX⟩ : ∃ X, X = wr.drew := ⟨_, rfl⟩
          have HOX : Hid (Own X wo.heap.size u6 (img e (xs.take k)) ∧ Below wo.heap.size wo X) := Lib.hid (by rw [eX]; exact ⟨ho.out.1.below (bl_drew (bl_refl _)), bl_drew ho.out.2⟩)
          have HCL : Hid (∀ W' : World, (∀ g, g < wo.heap.size → W'.heap[g]? = X.heap[g]?) → W'.cell? ⟨bL, oL + k, none⟩ = some (.int .i64 x) ∧ W'.cell? ⟨gU, oU + m, none⟩ = some (.slice (some ⟨b2, o2, none⟩) 4 cc) ∧ W'.cell? ⟨b2, o2 + j, none⟩ = some (.int .i64 y)) := Lib.hid (fun W' hI =>
            ⟨(World.cell?_of_block (a := ⟨bL, oL + k, none⟩) (hI bL HBL.out)).trans ((HOX.out.2.cell (p := ⟨bL, oL + k, none⟩) HBL.out).trans hcl), (World.cell?_of_block (a := ⟨gU, oU + m, none⟩) (hI gU HUL.out)).trans ((HOX.out.2.cell (p := ⟨gU, oU + m, none⟩) HUL.out).trans hcu), (World.cell?_of_block (a := ⟨b2, o2 + j, none⟩) (hI b2 HB2.out)).trans ((HOX.out.2.cell (p := ⟨b2, o2 + j, none⟩) HB2.out).trans hce)⟩)
          have T1 : IntKind.i64.wrap (x.tdiv 4) = x / 4 := by rw [Int.tdiv_eq_ediv_of_nonneg hx0]; exact wrapI _ (by omega)
          have T2 : IntKind.i64.wrap (x / 4 * 4) = x / 4 * 4 := wrapI _ (by omega)
          have T3 : x.tmod 4 = (j : Int) := by rw [Int.tmod_eq_emod_of_nonneg hx0]; exact hj
          have T4 : IntKind.i64.wrap (x / 4 * 4 + y) = x / 4 * 4 + y := wrapI _ (by omega)
          have T5 : x % 4 = (j : Int) := hj
          refine wp_region_R (R := fun a b => b = a) (I := fun W' => ∀ g, g < wo.heap.size → W'.heap[g]? = X.heap[g]?) (last := 21) (k := 21) (fun _ => rfl) hmx rfl (fun HC0 => ?_)
          rw [← eX]
          have EX := Lib.hid eX
          clear hcl hcu hce eX
          refine wpAnyR_take (i := 0) (kw := 12) (v := u6) (fun _ => rfl) (fun p q => q.trans p) rfl (by kernel_rfl) (by kernel_rfl) (by kernel_rfl) (by kernel_rfl) (fun _ _ _ h => h) HC0 (Or.inl ⟨by rfl, fun W' hI => .inl ?_⟩) (fun HC1 => ?_)
          · obtain ⟨q1, q2, q3⟩ := HCL.out W' hI
            go_simp
          refine wpAnyR_take (i := 1) (kw := 12) (v := .slice (some ⟨bL, oL, none⟩) xs.length c) (fun _ => rfl) (fun p q => q.trans p) rfl (by kernel_rfl) (by kernel_rfl) (by kernel_rfl) (by kernel_rfl) (fun _ _ _ h => h) HC1 (Or.inl ⟨by rfl, fun W' hI => .inl ?_⟩) (fun HC2 => ?_)
          · obtain ⟨q1, q2, q3⟩ := HCL.out W' hI
            go_simp
          refine wpAnyR_take (i := 2) (kw := 12) (v := .int .i64 k) (fun _ => rfl) (fun p q => q.trans p) rfl (by kernel_rfl) (by kernel_rfl) (by kernel_rfl) (by kernel_rfl) (fun _ _ _ h => h) HC2 (Or.inl ⟨by rfl, fun W' hI => .inl ?_⟩) (fun HC3 => ?_)
          · obtain ⟨q1, q2, q3⟩ := HCL.out W' hI
            go_simp
          refine wpAnyR_take (i := 3) (kw := 12) (v := .pointer (some ⟨bL, oL + k, none⟩)) (fun _ => rfl) (fun p q => q.trans p) rfl (by kernel_rfl) (by kernel_rfl) (by kernel_rfl) (by kernel_rfl) (fun _ _ _ h => h) HC3 (Or.inl ⟨by rfl, fun W' hI => .inl ?_⟩) (fun HC4 => ?_)
          · obtain ⟨q1, q2, q3⟩ := HCL.out W' hI
            go_simp
          refine wpAnyR_take (i := 4) (kw := 12) (v := .int .i64 x) (fun _ => rfl) (fun p q => q.trans p) rfl (by kernel_rfl) (by kernel_rfl) (by kernel_rfl) (by kernel_rfl) (fun _ _ _ h => h) HC4 (Or.inl ⟨by rfl, fun W' hI => .inl ?_⟩) (fun HC5 => ?_)
          · obtain ⟨q1, q2, q3⟩ := HCL.out W' hI
            go_simp
          refine wpAnyR_take (i := 5) (kw := 12) (v := .int .i64 (x / 4)) (fun _ => rfl) (fun p q => q.trans p) rfl (by kernel_rfl) (by kernel_rfl) (by kernel_rfl) (by kernel_rfl) (fun _ _ _ h => h) HC5 (Or.inl ⟨by rfl, fun W' hI => .inl ?_⟩) (fun HC6 => ?_)
          · obtain ⟨q1, q2, q3⟩ := HCL.out W' hI
            go_simp
          refine wpAnyR_take (i := 6) (kw := 12) (v := .int .i64 (x / 4 * 4)) (fun _ => rfl) (fun p q => q.trans p) rfl (by kernel_rfl) (by kernel_rfl) (by kernel_rfl) (by kernel_rfl) (fun _ _ _ h => h) HC6 (Or.inl ⟨by rfl, fun W' hI => .inl ?_⟩) (fun HC7 => ?_)
          · obtain ⟨q1, q2, q3⟩ := HCL.out W' hI
            go_simp
          refine wpAnyR_take (i := 7) (kw := 12) (v := .slice (some ⟨gU, oU, none⟩) 24 c1) (fun _ => rfl) (fun p q => q.trans p) rfl (by kernel_rfl) (by kernel_rfl) (by kernel_rfl) (by kernel_rfl) (fun _ _ _ h => h) HC7 (Or.inl ⟨by rfl, fun W' hI => .inl ?_⟩) (fun HC8 => ?_)
          · obtain ⟨q1, q2, q3⟩ := HCL.out W' hI
            go_simp
          refine wpAnyR_take (i := 8) (kw := 12) (v := .int .i64 m) (fun _ => rfl) (fun p q => q.trans p) rfl (by kernel_rfl) (by kernel_rfl) (by kernel_rfl) (by kernel_rfl) (fun _ _ _ h => h) HC8 (Or.inl ⟨by rfl, fun W' hI => .inl ?_⟩) (fun HC9 => ?_)
          · obtain ⟨q1, q2, q3⟩ := HCL.out W' hI
            go_simp
          refine wpAnyR_take (i := 9) (kw := 12) (v := .pointer (some ⟨gU, oU + m, none⟩)) (fun _ => rfl) (fun p q => q.trans p) rfl (by kernel_rfl) (by kernel_rfl) (by kernel_rfl) (by kernel_rfl) (fun _ _ _ h => h) HC9 (Or.inl ⟨by rfl, fun W' hI => .inl ?_⟩) (fun HC10 => ?_)
          · obtain ⟨q1, q2, q3⟩ := HCL.out W' hI
            go_simp
          refine wpAnyR_take (i := 10) (kw := 12) (v := .slice (some ⟨b2, o2, none⟩) 4 cc) (fun _ => rfl) (fun p q => q.trans p) rfl (by kernel_rfl) (by kernel_rfl) (by kernel_rfl) (by kernel_rfl) (fun _ _ _ h => h) HC10 (Or.inl ⟨by rfl, fun W' hI => .inl ?_⟩) (fun HC11 => ?_)
          · obtain ⟨q1, q2, q3⟩ := HCL.out W' hI
            go_simp
          refine wpAnyR_take (i := 11) (kw := 12) (v := .slice (some ⟨bL, oL, none⟩) xs.length c) (fun _ => rfl) (fun p q => q.trans p) rfl (by kernel_rfl) (by kernel_rfl) (by kernel_rfl) (by kernel_rfl) (fun _ _ _ h => h) HC11 (Or.inl ⟨by rfl, fun W' hI => .inl ?_⟩) (fun HC12 => ?_)
          · obtain ⟨q1, q2, q3⟩ := HCL.out W' hI
            go_simp
          refine wpAnyR_take (i := 12) (kw := 12) (v := .int .i64 k) (fun _ => rfl) (fun p q => q.trans p) rfl (by kernel_rfl) (by kernel_rfl) (by kernel_rfl) (by kernel_rfl) (fun _ _ _ h => h) HC12 (Or.inl ⟨by rfl, fun W' hI => .inl ?_⟩) (fun HC13 => ?_)
          · obtain ⟨q1, q2, q3⟩ := HCL.out W' hI
            go_simp
          refine wpAnyR_take (i := 13) (kw := 12) (v := .pointer (some ⟨bL, oL + k, none⟩)) (fun _ => rfl) (fun p q => q.trans p) rfl (by kernel_rfl) (by kernel_rfl) (by kernel_rfl) (by kernel_rfl) (fun _ _ _ h => h) HC13 (Or.inl ⟨by rfl, fun W' hI => .inl ?_⟩) (fun HC14 => ?_)
          · obtain ⟨q1, q2, q3⟩ := HCL.out W' hI
            go_simp
          refine wpAnyR_take (i := 14) (kw := 12) (v := .int .i64 x) (fun _ => rfl) (fun p q => q.trans p) rfl (by kernel_rfl) (by kernel_rfl) (by kernel_rfl) (by kernel_rfl) (fun _ _ _ h => h) HC14 (Or.inl ⟨by rfl, fun W' hI => .inl ?_⟩) (fun HC15 => ?_)
          · obtain ⟨q1, q2, q3⟩ := HCL.out W' hI
            go_simp
          refine wpAnyR_take (i := 15) (kw := 12) (v := .int .i64 j) (fun _ => rfl) (fun p q => q.trans p) rfl (by kernel_rfl) (by kernel_rfl) (by kernel_rfl) (by kernel_rfl) (fun _ _ _ h => h) HC15 (Or.inl ⟨by rfl, fun W' hI => .inl ?_⟩) (fun HC16 => ?_)
          · obtain ⟨q1, q2, q3⟩ := HCL.out W' hI
            go_simp
          refine wpAnyR_take (i := 16) (kw := 12) (v := .pointer (some ⟨b2, o2 + j, none⟩)) (fun _ => rfl) (fun p q => q.trans p) rfl (by kernel_rfl) (by kernel_rfl) (by kernel_rfl) (by kernel_rfl) (fun _ _ _ h => h) HC16 (Or.inl ⟨by rfl, fun W' hI => .inl ?_⟩) (fun HC17 => ?_)
          · obtain ⟨q1, q2, q3⟩ := HCL.out W' hI
            go_simp
          refine wpAnyR_take (i := 17) (kw := 12) (v := .int .i64 y) (fun _ => rfl) (fun p q => q.trans p) rfl (by kernel_rfl) (by kernel_rfl) (by kernel_rfl) (by kernel_rfl) (fun _ _ _ h => h) HC17 (Or.inl ⟨by rfl, fun W' hI => .inl ?_⟩) (fun HC18 => ?_)
          · obtain ⟨q1, q2, q3⟩ := HCL.out W' hI
            go_simp
          refine wpAnyR_take (i := 18) (kw := 12) (v := .int .i64 (x / 4 * 4 + y)) (fun _ => rfl) (fun p q => q.trans p) rfl (by kernel_rfl) (by kernel_rfl) (by kernel_rfl) (by kernel_rfl) (fun _ _ _ h => h) HC18 (Or.inl ⟨by rfl, fun W' hI => .inl ?_⟩) (fun HC19 => ?_)
          · obtain ⟨q1, q2, q3⟩ := HCL.out W' hI
            go_simp
          refine wpAnyR_one HC19 (i := 19) (by kernel_rfl) rfl (by rfl) (fun w8 hr8 => ?_)
          obtain rfl := hr8
          refine ⟨fun g hg => rfl, fun K hK => ?_⟩
          go_simp
          refine hK _ _ ?_
          clear hK K
          intro HC20
          refine wpAnyR_one HC20 (i := 20) (by kernel_rfl) rfl (by rfl) (fun w9 hr9 => ?_)
          obtain rfl := hr9
          have HLO : Hid (wo.heap.size ≤ w8.heap.size) := Lib.hid HOX.out.2.size
          refine ⟨fun g hg => (bl_alloc (bl_refl w8) _).block g (Nat.lt_of_lt_of_le hg HLO.out), fun K hK => ?_⟩
          refine opwp_glueI (.tmp 23) (.tmp 42) rfl wo.heap.size u6 (img e (xs.take k)) [x / 4 * 4 + y] (some ⟨w8.heap.size, 0, none⟩) 1 rfl (HOX.out.1.below (bl_alloc (bl_refl w8) _)) rfl (rd_new1 w8 _) (by simp [img]; omega) (by have := HLO.out; simp; omega) ?_
          intro A9 c9 ws9 w10 e9 ho9 hg9
          have HI10 : Hid (∀ g, g < wo.heap.size → w10.heap[g]? = w8.heap[g]?) := Lib.hid (fun g hg => by
            have hgx : g < w8.heap.size := Nat.lt_of_lt_of_le hg HLO.out
            refine (hg9.block g (by simp; omega) (fun q => ?_)).trans ((bl_alloc (bl_refl w8) _).block g hgx)
            have := (World.ownsRow.lt HOX.out.1 g q.symm).1
            omega)
          have HO10 : Hid (Own w10 wo.heap.size (.slice A9 ws9.length c9) (img e (xs.take (k + 1))) ∧ Below wo.heap.size wo w10) := Lib.hid ⟨by rw [HSK.out, ← EQ.out]; have h := e9.out; rw [← h]; exact ho9,
            (bl_alloc HOX.out.2 _).grown hg9 (by have := HLO.out; simp; omega) (fun q hq => by have := (World.ownsRow.lt HOX.out.1 q hq).1; omega)⟩
          refine hK _ _ ?_
          clear hK K hg9 ho9 e9
          intro HC21
          refine wpAnyR_last (by kernel_rfl) (by kernel_rfl) rfl (by rfl) (fun w11 hr11 => ?_)
          obtain rfl := hr11
          refine ⟨HI10.out, fun K hK => ?_⟩
          go_simp
          refine hK _ _ ?_
          clear hK K
          go_wp2_with fail
          go_roundw
          case rel => exact ⟨k + 1, by omega, by go_num, HO10⟩
          case measure => simp [intOf]; omega
        · obtain rfl : k = xs.length := by omega
          have HT : Hid (xs.take xs.length = xs) := Lib.hid List.take_length
          rw [HT.out] at ho
          obtain ⟨A2, c2, rfl, ho2⟩ := own_form ho.out.1
          have HIL : Hid ((img e xs).length = xs.length) := Lib.hid (by unfold img; rw [List.length_map])
          have K3 := Lib.hid (KT.out A2 c2 (img e xs) wr ho2.rd (by rw [HIL.out]; omega))
          have HB3 := Lib.hid ho.out.2
          clear ho2 ho
          rw [← HSM.out] at K3
          go_wp2_with (first
            | (go_at_call 120; refine (K3.out).mono ?_; rintro e3 w3 ⟨A3, c3, rfl, ho3, hb3⟩
               have HO3 := Lib.hid (ho3.less HB3.out.size); have HB4 := Lib.hid (bl_trans HB3.out hb3); clear ho3 hb3)
            | (at_builtin; refine wpList_hang (.tmp 44) (.tmp 47) rfl rfl w1.heap.size u4 m (cellsS m AA CC xs.length) rfl ((hh.out.next HB4.out).next (bl_alloc (bl_refl _) _)).out ⟨w3.heap.size, 0, none⟩ 1 (.slice A3 (R m).length c3) rfl ?c1 rfl ?c2 ?c3 ?_))
          case c1 => simp [go_sem]
          case c2 => omega
          case c3 => have := hh.out.below.size; have := HB4.out.size; simp; omega
          intro v' w4 hown4 hg4 hv4
          have HG := Lib.hid (hang_add (K := m) (A := A3) (c := c3) (n := xs.length) hh.out HB4.out HO3.out (HSL.out m) (by rw [← HSL.out m] at hown4 ⊢; exact hown4) hg4 (by simpa using hv4))
          clear hown4 hg4 hv4
          go_wp2_with fail
          go_roundw
          case rel => exact ⟨m + 1, _, _, by omega, by go_num, HG⟩
          case measure => simp [intOf]; omega
    · obtain rfl : m = 24 := by omega
      obtain ⟨A2, c2, rfl, hf⟩ := hh.out.fam2
      go_wp2_with fail
      go_ret
      exact ⟨_, _, _, _, rfl, hf.less HB1.out.size, bl_trans HB1.out hh.out.below⟩
end Go.Proofs.YtilbkgnjgmlhjaaDoor
