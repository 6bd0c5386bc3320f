/-
  The program's map of all classes: combosByClass.
-/
import Derived.Test.YtjmfecjgomkofabDoorGroups
import Derived.Test.YtjmfecjgomkofabDoorAnyR
import Derived.Test.YtjmfecjgomkofabDoorClsOf
import Derived.Test.YtjmfecjgomkofabDoorOtherCards
import Derived.Test.YtjmfecjgomkofabDoorRows2
import Derived.Maps.OwnOps
namespace Go.Proofs.YtjmfecjgomkofabDoor
open Go.RowKit
set_option linter.unusedVariables false

theorem below_refl2 (w : World) : Below w.heap.size w w := Below.refl _ _
theorem below_trans2 {a b c : World} (h : Below a.heap.size a b) (k : Below b.heap.size b c) : Below a.heap.size a c := bl_trans h k
/-- What has been done: all pairs of the list but those that are left. -/
theorem pairs_drop (L : List Int) (k : Nat) (h : k < L.length) : pairsOf (L.drop k) = (L.drop (k + 1)).map (fun y => (nth L k, y)) ++ pairsOf (L.drop (k + 1)) := by
  have e : L.drop k = nth L k :: L.drop (k + 1) := by rw [nth_eq L k h]; exact List.drop_eq_getElem_cons h
  rw [e]; rfl
theorem pairs_len52 {L : List Int} (h : L.length ≤ 64) {ps qs : List (Int × Int)} (e : ps ++ qs = pairsOf L) : ps.length ≤ 4096 := by
  have h1 := pairs_len L
  have h2 := congrArg List.length e
  rw [List.length_append] at h2
  have : L.length * L.length ≤ 64 * 64 := Nat.mul_le_mul h h
  omega

set_option maxRecDepth 100000 in
theorem run_makeMap169 (w : World) : (Instr.makeMap 74 (some (.int .i64 169))).run Tryd.prog w = .ok (.map (some w.heap.size)) (w.alloc (.map #[] 0)) := by
  first | rfl | simp [Instr.makeMap, go_sem]
theorem Grps.rd {w0 w1 w : World} {B : Nat} {ps : List (Int × Int)} {f : Int → Value} (h : Grps w0 w1 B ps f w) {A : Option Addr} {xs : List Int} (hr : Rd w1 A xs) (hne : ∀ a, A = some a → a.block ≠ B) : Rd w A xs := fun h0 =>
  (hr.keep (fun a e => h.kept a.block (hr.lt h0 e) (hne a e))) h0
/-- append to a row of pairs, as one operation of a region that draws. -/
theorem opwp_app2 {o : Oper} {a : Act} {w : World} {K : Act → World → Prop} {Q : Exit → Act → World → Prop} (s x : Operand)
    (ho : o.op = .call { callee := .builtin .append, args := #[s, x], argTypes := #[73, 73] })
    (b : Nat) (v : Value) (l : List (Int × Int)) (q : Int × Int) (hs : a.eval s = v) (hown : OwnG w b v l) (ad : Addr) (hx : a.eval x = .slice (some ad) 1 1)
    (h0 : w.cell? (ad.add 0) = some (.int .i64 q.1)) (h1 : w.cell? (ad.add 1) = some (.int .i64 q.2)) (hl : l.length ≤ 1000000) (hb : b ≤ w.heap.size)
    (h : ∀ v' w', OwnG w' b v' (l ++ [q]) → w.grownBy w' v.ownBlock → (v'.ownBlock = v.ownBlock ∨ v'.ownBlock = some w.heap.size) → K (a.put o.dst v') w') : Oper.wp Tryd.prog o a w K Q := by
  obtain ⟨i0, hi, hz0, hz1, hz2⟩ := info_parts infoTwo
  obtain ⟨v', w', hr, h2, h3, _, h5⟩ := run_append_own_at (P := Tryd.prog) w b 73 o.type 107 i0 (.agg #[.int .i64 0, .int .i64 0]) 2 16 Tryd.underlying73 hi hz0 hz1 hz2 rfl (by decide) v l.length (cells2 l) hown ad 1 1 [.int .i64 q.1, .int .i64 q.2] rfl
    (fun j u hu => match j, hu with
      | 0, hu => by simp at hu; subst hu; exact h0
      | 1, hu => by simp at hu; subst hu; exact h1)
    (fun u hu => by simp at hu; rcases hu with rfl | rfl <;> rfl) (by unfold maxLen; omega) (by omega) hb
  unfold Oper.wp execOp
  simp only [ho, resolve, invoke, builtin, Sem.run_bind, Sem.run_pure, Result.andThen_ok, List.map_toArray, List.map_cons, List.map_nil, hs, hx, hr]
  exact h v' w' (by unfold OwnG; rw [cells2_snoc, List.length_append]; exact h2) h3 h5
theorem opwp_put {o : Oper} {a : Act} {w : World} {K : Act → World → Prop} {Q : Exit → Act → World → Prop} (m x v : Operand) (hop : o.op = Op.mapUpdate 74 m x v) {B n : Nat} {f : Int → Value}
    (hm : a.eval m = .map (some B)) (h : MapG w B n f) (hn : n < maxLen) (c : Int) (val : Value) (hx : a.eval x = .int .i64 c) (hv : a.eval v = val) (hc : (Lit.int .i64 c).wf = true)
    (hK : ∀ w', MapG w' B (n + 1) (putF f c val) → w.grownBy w' (some B) → K (a.put o.dst undef) w') : Oper.wp Tryd.prog o a w K Q := by
  obtain ⟨D, h1, h2⟩ := h
  obtain ⟨w', hrun, h3, h4⟩ := h1.update lawCls Tryd.underlying74 hn (val := val) (Maps.keyOf_int_mk Tryd.underlying66 hc) (d := .held val) (ps := []) rfl
  unfold Oper.wp
  simp [execOp, hop, hm, hx, hv, hrun, Result.andThen]
  refine hK w' ⟨_, h3, fun c' hc' => ?_⟩ h4
  by_cases e : c' = c
  · subst e
    rw [putF_same]
    exact Maps.atKey_put_same h1.isMap (by simp [WideAt.IsKeyLit]) _ _
  · rw [putF_other e, Maps.atKey_put_other (by intro h5; cases h5; exact e rfl)]
    exact h2 c' hc'
theorem MapG.lookup {w : World} {B n : Nat} {f : Int → Value} (h : MapG w B n f) {c : Int} (hc : (Lit.int .i64 c).wf = true) : (Instr.lookup 74 (.map (some B)) (.int .i64 c) false).run Tryd.prog w = .ok (f c) w :=
  MapF.look h lawCls Tryd.underlying66 Tryd.underlying74 (zeroGrp w) hc

set_option maxRecDepth 100000 in
set_option maxHeartbeats 4000000 in
theorem combosBy_any (m : Nat) (B : Nat) (wt w : World) (hm : m < 2 ^ 53) (hL : ∀ x ∈ bitsI m, 0 ≤ x ∧ x < 52) (ht : Hid (Tz B wt)) (hB : Hid (Below B wt w)) (hBw : Hid (B ≤ w.heap.size)) :
    Calls Tryd.prog 47 #[.int .u64 m] w (fun e w' => e = .returned (.map (some w.heap.size)) ∧ ∃ f w1, Hid (Grps w w1 w.heap.size (pairsOf (bitsI m)) f w')) := by
  obtain ⟨w0, rfl⟩ : ∃ w0 : World, w0 = w := ⟨w, rfl⟩
  have hmm := run_makeMap169
  have KL := Lib.hid (list_any m B wt (w0.alloc (.map #[] 0)) hm ht (Lib.hid (hB.out.trans ((bl_alloc (bl_refl w0) _).mono hBw.out))) (Lib.hid (by have := hBw.out; simp; omega)))
  have HL := Lib.hid hL
  have hlen := bitsI_len m
  have hmx : Tryd.prog.follows .mixedOrders = true := by kernel_rfl
  clear hL hm
  generalize bitsI m = L at *
  go_enter Tryd.func47, Tryd.ntmps47
  go_wp2_with (go_at_call 79; refine (KL.out).mono ?_; rintro e w1 ⟨A, c, rfl, ho, hb⟩)
  have HC := Lib.hid (own_cap ho)
  have HR := Lib.hid ho.rd
  have HN : Hid (∀ a, A = some a → a.block ≠ w0.heap.size) := Lib.hid (fun a e => by
    subst e
    have := (World.ownsRow.lt ho a.block rfl).1
    simp at this
    omega)
  have HG : Hid (Grps w0 w1 w0.heap.size [] (fun _ => .slice none 0 0) w1) := Lib.hid (grps_start (mapF_made _ _ _ _ w0) (bl_alloc (bl_refl w0) _) hb (Nat.le_refl _))
  clear ho hb
  go_loopw [15] (fun i wr => ∃ (k : Nat) (ps : List (Int × Int)) (f : Int → Value), k ≤ L.length ∧ i = .int .i64 k ∧ Hid (Grps w0 w1 w0.heap.size ps f wr) ∧ Hid (ps ++ pairsOf (L.drop k) = pairsOf L)) (fun i _ => L.length - (intOf i).toNat)
  case atStart => exact ⟨0, [], _, Nat.zero_le _, rfl, HG, Lib.hid rfl⟩
  case round =>
    obtain ⟨k, ps, f, hk, rfl, hg, hp⟩ := hrel
    by_cases hlt : k < L.length
    · have hlt' : (k : Int) < L.length := by omega
      obtain ⟨b, off, rfl, hc0⟩ := (hg.out.rd HR.out HN.out) (by omega)
      have hcx := hc0 k hlt
      have hx := HL.out _ (nth_mem L k hlt)
      have HP := Lib.hid (pairs_drop L k hlt)
      have hsl : ∀ W, (Instr.slice 24 (.slice (some ⟨b, off, none⟩) L.length c) (some (.int .i64 ((k : Int) + 1))) none none).run Tryd.prog W = .ok (.slice (fromAt b off c (k + 1)) (L.length - (k + 1)) (c - (k + 1))) W := fun W => by
        have := run_sliceFrom b off L.length c (k + 1) (by omega) W
        rwa [show (((k + 1 : Nat) : Int)) = (k : Int) + 1 by omega] at this
      have HT : Hid (Rd w1 (fromAt b off c (k + 1)) (L.drop (k + 1))) := Lib.hid (rd_from HR.out (.inl HC.out))
      have HTN : Hid (∀ a, fromAt b off c (k + 1) = some a → a.block ≠ w0.heap.size) := Lib.hid (fun a e => by
        have h2 := HN.out _ rfl
        unfold fromAt at e
        split at e <;> (cases e; exact h2))
      have hTl : (L.drop (k + 1)).length = L.length - (k + 1) := List.length_drop
      have HTL : Hid (∀ y ∈ L.drop (k + 1), 0 ≤ y ∧ y < 52) := Lib.hid (fun y hy => HL.out y (List.mem_of_mem_drop hy))
      have HE : Hid (ps ++ ((L.drop (k + 1)).map (fun y => (nth L k, y)) ++ pairsOf (L.drop (k + 1))) = pairsOf L) := Lib.hid (by rw [← HP.out]; exact hp.out)
      rw [← hTl] at hsl
      generalize nth L k = x at *
      generalize fromAt b off c (k + 1) = P at *
      generalize c - (k + 1) = c1 at *
      have HLK : Hid (pairsOf (L.drop (k + 1)) = pairsOf (L.drop (k + 1))) := Lib.hid rfl
      obtain ⟨T, eT⟩ : ∃ T, T = L.drop (k + 1) := ⟨_, rfl⟩
      rw [← eT] at hsl HT HTL HE hTl
      have ET := Lib.hid eT
      have hT64 : T.length ≤ 64 := by omega
      clear hc0 HP eT HLK hTl
      go_wp2_with fail
      go_loopw [25] (fun j wx => ∃ (n : Nat) (ps2 : List (Int × Int)) (f2 : Int → Value), n ≤ T.length ∧ j = .int .i64 n ∧ Hid (Grps w0 w1 w0.heap.size ps2 f2 wx) ∧ Hid (ps2 ++ ((T.drop n).map (fun y => (x, y)) ++ pairsOf T) = pairsOf L)) (fun j _ => T.length - (intOf j).toNat)
      case atStart => exact ⟨0, ps, f, Nat.zero_le _, rfl, hg, HE⟩
      case round =>
        obtain ⟨n, ps2, f2, hn, rfl, hg2, hp2⟩ := hrel
        by_cases hln : n < T.length
        · have hln' : (n : Int) < T.length := by omega
          obtain ⟨b2, off2, rfl, hc2⟩ := (hg2.out.rd HT.out HTN.out) (by omega)
          have hcy := hc2 n hln
          have hy := HTL.out _ (nth_mem T n hln)
          have HPS := Lib.hid (pairs_len52 hlen hp2.out)
          have HP2 : Hid ((ps2 ++ [(x, nth T n)]) ++ ((T.drop (n + 1)).map (fun y => (x, y)) ++ pairsOf T) = pairsOf L) := Lib.hid (by
            have := hp2.out
            have e : T.drop n = nth T n :: T.drop (n + 1) := by rw [nth_eq T n hln]; exact List.drop_eq_getElem_cons hln
            rw [e] at this
            simpa using this)
          generalize nth T n = y at *
          have KC := Lib.hid (fun W => class_any x y W hx.1 hx.2 hy.1 hy.2)
          have hkk := cls_bd x y hx.1 hx.2 hy.1 hy.2
          have HK : Hid (clsI x y = clsI x y) := Lib.hid rfl
          obtain ⟨kk, ekk⟩ : ∃ kk, kk = clsI x y := ⟨_, rfl⟩
          rw [← ekk] at KC hkk
          have EKK := Lib.hid ekk
          have hwf : (Lit.int .i64 kk).wf = true := WalkArith.wf_i64 (by omega)
          clear hc2 ekk HK
          obtain ⟨wr2, rfl⟩ : ∃ wr2 : World, wr2 = wr := ⟨_, rfl⟩
          obtain ⟨X, eX⟩ : ∃ X : World, X = (wr2.alloc (.cells #[.int .i64 x, .int .i64 y] 107)).drew := ⟨_, rfl⟩
          have HGX : Hid (Grps w0 w1 w0.heap.size ps2 f2 X) := Lib.hid (by rw [eX]; exact hg2.out.grow (bl_drew (bl_alloc (bl_refl wr2) _)))
          have HXC : Hid (wr2.heap.size < X.heap.size ∧ X.cell? ⟨wr2.heap.size, 0, none⟩ = some (.int .i64 x) ∧ X.cell? ⟨wr2.heap.size, 1, none⟩ = some (.int .i64 y)) := Lib.hid (by
            rw [eX]
            refine ⟨by simp, ?_, ?_⟩ <;> simp [go_sem])
          have HBX : Hid (∀ W', X.grownBy W' (f2 kk).ownBlock → W'.cell? ⟨wr2.heap.size, 0, none⟩ = some (.int .i64 x) ∧ W'.cell? ⟨wr2.heap.size, 1, none⟩ = some (.int .i64 y)) := Lib.hid (fun W' hI => by
            have hne : some wr2.heap.size ≠ (f2 kk).ownBlock := fun e => by
              have := (hg2.out.row_ne hkk.1 hkk.2 _ e.symm).2
              omega
            have hbk := hI.block wr2.heap.size HXC.out.1 hne
            exact ⟨(World.cell?_of_block (a := ⟨wr2.heap.size, 0, none⟩) hbk).trans HXC.out.2.1, (World.cell?_of_block (a := ⟨wr2.heap.size, 1, none⟩) hbk).trans HXC.out.2.2⟩)
          have HLK : Hid (∀ W', X.grownBy W' (f2 kk).ownBlock → (Instr.lookup 74 (.map (some w0.heap.size)) (.int .i64 kk) false).run Tryd.prog W' = .ok (f2 kk) W') := Lib.hid (fun W' hI => by
            have hne : some w0.heap.size ≠ (f2 kk).ownBlock := fun e => by
              have := (hg2.out.row_ne hkk.1 hkk.2 _ e.symm).1
              have := hg2.out.hi
              omega
            exact MapG.lookup (n := ps2.length) (MapF.kept HGX.out.map hI hne) hwf)
          have EX := Lib.hid eX
          clear eX
          go_wp2_with fail
          refine wp_region_R (R := fun a b => Below a.heap.size a b) (I := fun W' => X.grownBy W' (f2 kk).ownBlock) (last := 10) (k := 10) below_refl2 hmx rfl (fun HC0 => ?_)
          rw [← EX.out]
          refine wpAnyR_take (i := 0) (kw := 8) (v := .map (some w0.heap.size)) below_refl2 below_trans2 rfl (by kernel_rfl) (by kernel_rfl) (by kernel_rfl) (by kernel_rfl) (fun _ _ _ h => h) HC0 (Or.inl ⟨by rfl, fun W' hI => ?_⟩) (fun HC1 => ?_)
          · refine .inl ?_
            go_simp
          refine wpAnyR_take (i := 1) (kw := 8) (v := .agg #[.int .i64 x, .int .i64 y]) below_refl2 below_trans2 rfl (by kernel_rfl) (by kernel_rfl) (by kernel_rfl) (by kernel_rfl) (fun _ _ _ h => h) HC1 (Or.inl ⟨by rfl, fun W' hI => ?_⟩) (fun HC2 => ?_)
          · obtain ⟨d0, d1⟩ := HBX.out W' hI
            refine .inl ?_
            go_simp
          refine wpAnyR_take (i := 2) (kw := 8) (v := .int .i64 kk) below_refl2 below_trans2 rfl (by kernel_rfl) (by kernel_rfl) (by kernel_rfl) (by kernel_rfl) (fun _ _ _ h => h) HC2 (Or.inl ⟨by rfl, fun W' hI => ?_⟩) (fun HC3 => ?_)
          · refine .inr ⟨80, #[.agg #[.int .i64 x, .int .i64 y]], ?_, ?_⟩
            · go_simp
            · exact (KC.out W').mono fun e w' ⟨he, hb⟩ => ⟨he, hb⟩
          refine wpAnyR_take (i := 3) (kw := 8) (v := .map (some w0.heap.size)) below_refl2 below_trans2 rfl (by kernel_rfl) (by kernel_rfl) (by kernel_rfl) (by kernel_rfl) (fun _ _ _ h => h) HC3 (Or.inl ⟨by rfl, fun W' hI => ?_⟩) (fun HC4 => ?_)
          · refine .inl ?_
            go_simp
          refine wpAnyR_take (i := 4) (kw := 8) (v := .agg #[.int .i64 x, .int .i64 y]) below_refl2 below_trans2 rfl (by kernel_rfl) (by kernel_rfl) (by kernel_rfl) (by kernel_rfl) (fun _ _ _ h => h) HC4 (Or.inl ⟨by rfl, fun W' hI => ?_⟩) (fun HC5 => ?_)
          · obtain ⟨d0, d1⟩ := HBX.out W' hI
            refine .inl ?_
            go_simp
          refine wpAnyR_take (i := 5) (kw := 8) (v := .int .i64 kk) below_refl2 below_trans2 rfl (by kernel_rfl) (by kernel_rfl) (by kernel_rfl) (by kernel_rfl) (fun _ _ _ h => h) HC5 (Or.inl ⟨by rfl, fun W' hI => ?_⟩) (fun HC6 => ?_)
          · refine .inr ⟨80, #[.agg #[.int .i64 x, .int .i64 y]], ?_, ?_⟩
            · go_simp
            · exact (KC.out W').mono fun e w' ⟨he, hb⟩ => ⟨he, hb⟩
          refine wpAnyR_take (i := 6) (kw := 8) (v := f2 kk) below_refl2 below_trans2 rfl (by kernel_rfl) (by kernel_rfl) (by kernel_rfl) (by kernel_rfl) (fun _ _ _ h => h) HC6 (Or.inl ⟨by rfl, fun W' hI => ?_⟩) (fun HC7 => ?_)
          · have hl := HLK.out W' hI
            refine .inl ?_
            go_simp
          refine wpAnyR_take (i := 7) (kw := 8) (v := .agg #[.int .i64 x, .int .i64 y]) below_refl2 below_trans2 rfl (by kernel_rfl) (by kernel_rfl) (by kernel_rfl) (by kernel_rfl) (fun _ _ _ h => h) HC7 (Or.inl ⟨by rfl, fun W' hI => ?_⟩) (fun HC8 => ?_)
          · obtain ⟨d0, d1⟩ := HBX.out W' hI
            refine .inl ?_
            go_simp
          refine wpAnyR_one HC8 (i := 8) (by kernel_rfl) rfl (by rfl) (fun w8 hr8 => ⟨toGrown hr8 _, fun K hK => ?_⟩)
          go_simp
          refine hK _ _ ?_
          clear hK K
          intro HC9
          refine wpAnyR_one HC9 (i := 9) (by kernel_rfl) rfl (by rfl) (fun w9 hr9 => ?_)
          have HX9 : Hid (Below X.heap.size X w9) := Lib.hid (bl_trans (bl_alloc hr8 _) hr9)
          have HN9 : Hid (w9.cell? ⟨w8.heap.size, 0, none⟩ = some (.int .i64 x) ∧ w9.cell? ⟨w8.heap.size, 1, none⟩ = some (.int .i64 y)) := Lib.hid (by
            have hz : w8.heap.size < (w8.alloc (.cells #[.int .i64 x, .int .i64 y] 107)).heap.size := by simp
            refine ⟨((bcell hr9).1 w8.heap.size 0 hz).trans ?_, ((bcell hr9).1 w8.heap.size 1 hz).trans ?_⟩ <;> simp [go_sem])
          refine ⟨toGrown HX9.out _, fun K hK => ?_⟩
          clear hr9 hr8
          refine opwp_app2 (.tmp 38) (.tmp 40) rfl w1.heap.size (f2 kk) (ofCls kk ps2) (x, y) rfl ((HGX.out.grow HX9.out).rows kk hkk.1 hkk.2) ⟨w8.heap.size, 0, none⟩ rfl HN9.out.1 HN9.out.2 (by have := HPS.out; have := ofCls_len kk ps2; omega) (Nat.le_trans HGX.out.size HX9.out.size) ?_
          intro v' w10 hv hg hl
          refine hK _ _ ?_
          clear hK K
          intro HC10
          refine wpAnyR_last (by kernel_rfl) (by kernel_rfl) rfl (by rfl) (fun w11 hr11 => ?_)
          have HI11 : Hid (X.grownBy w11 (f2 kk).ownBlock) := Lib.hid (((toGrown HX9.out _).trans hg).trans (toGrown hr11 _))
          refine ⟨HI11.out, fun K hK => ?_⟩
          have hneB : some w0.heap.size ≠ (f2 kk).ownBlock := fun e => by
            have := (hg2.out.row_ne hkk.1 hkk.2 _ e.symm).1
            have := hg2.out.hi
            omega
          refine opwp_put (.tmp 32) (.tmp 34) (.tmp 41) rfl (f := f2) (n := ps2.length) rfl (MapF.kept HGX.out.map HI11.out hneB) (by have := HPS.out; unfold maxLen; omega) kk v' rfl rfl hwf (fun w12 hm12 hg12 => ?_)
          have HG12 : Hid (Grps w0 w1 w0.heap.size (ps2 ++ [(x, y)]) (putF f2 kk v') w12) := Lib.hid (HGX.out.put (q := (x, y)) EKK.out.symm hkk.1 hkk.2 ((toGrown HX9.out _).trans hg) hv
            (hl.imp id (fun h => ⟨_, h, HX9.out.size⟩)) hr11 hm12 hg12)
          clear hm12 hg12 hr11 hl hg hv HN9
          go_simp
          refine hK _ _ ?_
          clear hK K
          go_wp2_with fail
          go_roundw
          case rel => exact ⟨n + 1, _, _, by omega, by go_num, HG12, HP2⟩
          case measure => simp [intOf]; omega
        · obtain rfl : n = T.length := by omega
          have HP3 : Hid (ps2 ++ pairsOf (L.drop (k + 1)) = pairsOf L) := Lib.hid (by
            have := hp2.out
            rw [List.drop_length] at this
            rw [← ET.out]
            simpa using this)
          go_wp2_with fail
          go_roundw
          case rel => exact ⟨k + 1, ps2, f2, by omega, by go_num, hg2, HP3⟩
          case measure => simp [intOf]; omega
    · obtain rfl : k = L.length := by omega
      have HPL : Hid (ps = pairsOf L) := Lib.hid (by
        have := hp.out
        rw [List.drop_length] at this
        simpa [pairsOf] using this)
      go_wp2_with fail
      go_ret
      exact ⟨rfl, f, w1, by rw [← HPL.out]; exact hg⟩
end Go.Proofs.YtjmfecjgomkofabDoor
