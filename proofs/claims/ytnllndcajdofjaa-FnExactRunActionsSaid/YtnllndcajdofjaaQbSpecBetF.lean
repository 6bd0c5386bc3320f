/-
 The model: who has to act, open rounds, sums, the seats that have not folded.
-/
import Derived.Test.YtnllndcajdofjaaQbSpecBetV
namespace Go.Proofs.Ytnllndcajdofjaa
open Go.RowKit
set_option linter.unusedVariables false

set_option maxRecDepth 100000 in
set_option maxHeartbeats 2000000 in
theorem l10Has_any (L : At5) (b : Bt) (i : Nat) (w : World) (h : Rd5 w L b) (k : Sd b) (hi : i < b.st.length) :
  Calls Try.prog 107 #[bV L b,.int .i64 i] w (Fresh (.bool (mustB b i)) w):=by
 have hmx : Try.prog.follows .mixedOrders = true:=by kernel_rfl
 have n6:=k.n6
 have l2:=k.l2
 have l4:=k.l4
 have l5:=k.l5
 have d1 : (i : Int) < b.st.length:=by omega
 have d2 : (i : Int) < b.bt.length:=by omega
 have d5 : (i : Int) < b.ac.length:=by omega
 obtain ⟨A1,A2,A3,A4,A5,e1c,e2c,e3c,e4c,e5c⟩:=L
 have r2 : Rd w A2 b.bt:=h.r2
 have r5 : RdB w A5 b.ac:=h.r5
 obtain ⟨b2,o2,rfl,hc2⟩:=r2.at_0 i (by omega)
 obtain ⟨b5,o5,rfl,hc5⟩:=r5.at_0 i (by omega)
 have BT : BtAt (w.alloc (.cells ([.slice A1 b.st.length e1c,.slice (some ⟨b2,o2,none⟩) b.bt.length e2c,.slice A3 b.pd.length e3c,.slice A4 b.fo.length e4c,.slice (some ⟨b5,o5,none⟩) b.ac.length e5c,.int .i64 b.tu,.int .i64 b.un,.int .i64 b.ra,.int .i64 b.li] : List Value).toArray 27)) w.heap.size ⟨A1,some ⟨b2,o2,none⟩,A3,A4,some ⟨b5,o5,none⟩,e1c,e2c,e3c,e4c,e5c⟩ b:=btAt_new h
 have B : Hid (Below w.heap.size w (w.alloc (.cells ([.slice A1 b.st.length e1c,.slice (some ⟨b2,o2,none⟩) b.bt.length e2c,.slice A3 b.pd.length e3c,.slice A4 b.fo.length e4c,.slice (some ⟨b5,o5,none⟩) b.ac.length e5c,.int .i64 b.tu,.int .i64 b.un,.int .i64 b.ra,.int .i64 b.li] : List Value).toArray 27))):=Lib.hid (bl_alloc (bl_refl w) _)
 have H2 : Hid (∀ W',Below (w.alloc (.cells ([.slice A1 b.st.length e1c,.slice (some ⟨b2,o2,none⟩) b.bt.length e2c,.slice A3 b.pd.length e3c,.slice A4 b.fo.length e4c,.slice (some ⟨b5,o5,none⟩) b.ac.length e5c,.int .i64 b.tu,.int .i64 b.un,.int .i64 b.ra,.int .i64 b.li] : List Value).toArray 27)).heap.size (w.alloc (.cells ([.slice A1 b.st.length e1c,.slice (some ⟨b2,o2,none⟩) b.bt.length e2c,.slice A3 b.pd.length e3c,.slice A4 b.fo.length e4c,.slice (some ⟨b5,o5,none⟩) b.ac.length e5c,.int .i64 b.tu,.int .i64 b.un,.int .i64 b.ra,.int .i64 b.li] : List Value).toArray 27)) W' → W'.cell? ⟨b2,o2 + i,none⟩ = some (.int .i64 (nth b.bt i))):=Lib.hid (fun W' hI=>((bl_trans B.out hI).cell (p:=⟨b2,o2 + i,none⟩) (World.block_lt_of_cell? _ _ hc2)).trans hc2)
 have H5 : Hid (∀ W',Below (w.alloc (.cells ([.slice A1 b.st.length e1c,.slice (some ⟨b2,o2,none⟩) b.bt.length e2c,.slice A3 b.pd.length e3c,.slice A4 b.fo.length e4c,.slice (some ⟨b5,o5,none⟩) b.ac.length e5c,.int .i64 b.tu,.int .i64 b.un,.int .i64 b.ra,.int .i64 b.li] : List Value).toArray 27)).heap.size (w.alloc (.cells ([.slice A1 b.st.length e1c,.slice (some ⟨b2,o2,none⟩) b.bt.length e2c,.slice A3 b.pd.length e3c,.slice A4 b.fo.length e4c,.slice (some ⟨b5,o5,none⟩) b.ac.length e5c,.int .i64 b.tu,.int .i64 b.un,.int .i64 b.ra,.int .i64 b.li] : List Value).toArray 27)) W' → W'.cell? ⟨b5,o5 + i,none⟩ = some (.bool (nthB b.ac i))):=Lib.hid (fun W' hI=>((bl_trans B.out hI).cell (p:=⟨b5,o5 + i,none⟩) (World.block_lt_of_cell? _ _ hc5)).trans hc5)
 have KC : Hid (∀ W : World,Rd5 W ⟨A1,some ⟨b2,o2,none⟩,A3,A4,some ⟨b5,o5,none⟩,e1c,e2c,e3c,e4c,e5c⟩ b → Calls Try.prog 158 #[.agg #[.slice A1 b.st.length e1c,.slice (some ⟨b2,o2,none⟩) b.bt.length e2c,.slice A3 b.pd.length e3c,.slice A4 b.fo.length e4c,.slice (some ⟨b5,o5,none⟩) b.ac.length e5c,.int .i64 b.tu,.int .i64 b.un,.int .i64 b.ra,.int .i64 b.li],.int .i64 i] W (Fresh (.bool (canB b i)) W)):=Lib.hid (fun (W : World) hW=>l10Can_any ⟨A1,some ⟨b2,o2,none⟩,A3,A4,some ⟨b5,o5,none⟩,e1c,e2c,e3c,e4c,e5c⟩ b i W hW hi l4)
 have KM : Hid (∀ W : World,Rd5 W ⟨A1,some ⟨b2,o2,none⟩,A3,A4,some ⟨b5,o5,none⟩,e1c,e2c,e3c,e4c,e5c⟩ b → Calls Try.prog 137 #[.agg #[.slice A1 b.st.length e1c,.slice (some ⟨b2,o2,none⟩) b.bt.length e2c,.slice A3 b.pd.length e3c,.slice A4 b.fo.length e4c,.slice (some ⟨b5,o5,none⟩) b.ac.length e5c,.int .i64 b.tu,.int .i64 b.un,.int .i64 b.ra,.int .i64 b.li]] W (Fresh (.int .i64 (topI b)) W)):=Lib.hid (fun (W : World) hW=>l10Match_any ⟨A1,some ⟨b2,o2,none⟩,A3,A4,some ⟨b5,o5,none⟩,e1c,e2c,e3c,e4c,e5c⟩ b W hW (by omega))
 have KN : Hid (∀ W : World,Rd5 W ⟨A1,some ⟨b2,o2,none⟩,A3,A4,some ⟨b5,o5,none⟩,e1c,e2c,e3c,e4c,e5c⟩ b → Calls Try.prog 111 #[.agg #[.slice A1 b.st.length e1c,.slice (some ⟨b2,o2,none⟩) b.bt.length e2c,.slice A3 b.pd.length e3c,.slice A4 b.fo.length e4c,.slice (some ⟨b5,o5,none⟩) b.ac.length e5c,.int .i64 b.tu,.int .i64 b.un,.int .i64 b.ra,.int .i64 b.li]] W (Fresh (.int .i64 (cntI b)) W)):=Lib.hid (fun (W : World) hW=>l10Count_any ⟨A1,some ⟨b2,o2,none⟩,A3,A4,some ⟨b5,o5,none⟩,e1c,e2c,e3c,e4c,e5c⟩ b W hW n6 l4)
 have HRD:=Lib.hid BT
 have HN : Hid (Blk (w.alloc (.cells ([.slice A1 b.st.length e1c,.slice (some ⟨b2,o2,none⟩) b.bt.length e2c,.slice A3 b.pd.length e3c,.slice A4 b.fo.length e4c,.slice (some ⟨b5,o5,none⟩) b.ac.length e5c,.int .i64 b.tu,.int .i64 b.un,.int .i64 b.ra,.int .i64 b.li] : List Value).toArray 27)) w.heap.size 27 [.slice A1 b.st.length e1c,.slice (some ⟨b2,o2,none⟩) b.bt.length e2c,.slice A3 b.pd.length e3c,.slice A4 b.fo.length e4c,.slice (some ⟨b5,o5,none⟩) b.ac.length e5c,.int .i64 b.tu,.int .i64 b.un,.int .i64 b.ra,.int .i64 b.li]):=Lib.hid BT.blk
 have HA:=Lib.hid (ano_cnt b i hi)
 have H : Hid (mustB b i = (canB b i && (decide (nth b.bt i < topI b) || (!nthB b.ac i && anoB b i)))):=Lib.hid rfl
 have HN1:=HN.out
 obtain ⟨q0,-⟩:=HN1.cell 0 _ rfl
 obtain ⟨q1,-⟩:=HN1.cell 1 _ rfl
 obtain ⟨q2,-⟩:=HN1.cell 2 _ rfl
 obtain ⟨q3,-⟩:=HN1.cell 3 _ rfl
 obtain ⟨q4,-⟩:=HN1.cell 4 _ rfl
 obtain ⟨q5,-⟩:=HN1.cell 5 _ rfl
 obtain ⟨q6,-⟩:=HN1.cell 6 _ rfl
 obtain ⟨q7,-⟩:=HN1.cell 7 _ rfl
 obtain ⟨q8,-⟩:=HN1.cell 8 _ rfl
 show Calls Try.prog 107 #[.agg #[.slice A1 b.st.length e1c,.slice (some ⟨b2,o2,none⟩) b.bt.length e2c,.slice A3 b.pd.length e3c,.slice A4 b.fo.length e4c,.slice (some ⟨b5,o5,none⟩) b.ac.length e5c,.int .i64 b.tu,.int .i64 b.un,.int .i64 b.ra,.int .i64 b.li],.int .i64 i] w _
 clear h BT k HN1 l2 l4 l5 hc2 hc5 hi r2 r5
 generalize topI b = t at *
 generalize nth b.bt i = x at *
 generalize nthB b.ac i = a at *
 generalize anoB b i = ano at *
 generalize canB b i = c at *
 generalize cntI b = n at *
 rcases c with _ | _
 ·have HV : Hid (mustB b i = false):=Lib.hid (by rw [H.out];simp)
  clear H HA
  go_enter Try.func107,Try.ntmps107
  go_wp2_with fail
  refine wp_region_W (last:=8) (k:=8) hmx rfl (fun HC0=>?_)
  refine wpAnyR_takeL (i:=0) (kw:=5) (v:=.pointer (some ⟨w.heap.size,1,none⟩)) (fun _=>bl_refl _) (fun p q=>bl_trans p q) rfl rfl (by kernel_rfl) (by kernel_rfl) (by kernel_rfl) (by kernel_rfl) (fun _ _ _ h=>h) HC0 (Or.inl ⟨by kernel_rfl,fun W' hI=>?_⟩) (fun HC1=>?_)
  ·exact .inl (by go_simp)
  refine wpAnyR_takeL (i:=1) (kw:=4) (v:=.slice (some ⟨b2,o2,none⟩) b.bt.length e2c) (fun _=>bl_refl _) (fun p q=>bl_trans p q) rfl rfl (by kernel_rfl) (by kernel_rfl) (by kernel_rfl) (by kernel_rfl) (fun _ _ _ h=>h) HC1 (Or.inl ⟨by kernel_rfl,fun W' hI=>?_⟩) (fun HC2=>?_)
  ·have hv:=(HN.out).below hI
   obtain ⟨z1,_⟩:=hv.cell 1 _ rfl
   exact .inl (by go_simp)
  refine wpAnyR_takeL (i:=2) (kw:=4) (v:=.int .i64 i) (fun _=>bl_refl _) (fun p q=>bl_trans p q) rfl rfl (by kernel_rfl) (by kernel_rfl) (by kernel_rfl) (by kernel_rfl) (fun _ _ _ h=>h) HC2 (Or.inl ⟨by kernel_rfl,fun W' hI=>?_⟩) (fun HC3=>?_)
  ·exact .inl (by go_simp)
  refine wpAnyR_takeL (i:=3) (kw:=3) (v:=.pointer (some ⟨b2,o2 + i,none⟩)) (fun _=>bl_refl _) (fun p q=>bl_trans p q) rfl rfl (by kernel_rfl) (by kernel_rfl) (by kernel_rfl) (by kernel_rfl) (fun _ _ _ h=>h) HC3 (Or.inl ⟨by kernel_rfl,fun W' hI=>?_⟩) (fun HC4=>?_)
  ·exact .inl (by go_simp)
  refine wpAnyR_takeL (i:=4) (kw:=2) (v:=.int .i64 x) (fun _=>bl_refl _) (fun p q=>bl_trans p q) rfl rfl (by kernel_rfl) (by kernel_rfl) (by kernel_rfl) (by kernel_rfl) (fun _ _ _ h=>h) HC4 (Or.inl ⟨by kernel_rfl,fun W' hI=>?_⟩) (fun HC5=>?_)
  ·have hx:=H2.out W' hI
   exact .inl (by go_simp)
  refine wpAnyR_takeL (i:=5) (kw:=3) (v:=.agg #[.slice A1 b.st.length e1c,.slice (some ⟨b2,o2,none⟩) b.bt.length e2c,.slice A3 b.pd.length e3c,.slice A4 b.fo.length e4c,.slice (some ⟨b5,o5,none⟩) b.ac.length e5c,.int .i64 b.tu,.int .i64 b.un,.int .i64 b.ra,.int .i64 b.li]) (fun _=>bl_refl _) (fun p q=>bl_trans p q) rfl rfl (by kernel_rfl) (by kernel_rfl) (by kernel_rfl) (by kernel_rfl) (fun _ _ _ h=>h) HC5 (Or.inl ⟨by kernel_rfl,fun W' hI=>?_⟩) (fun HC6=>?_)
  ·have hv:=(HN.out).below hI
   obtain ⟨z0,_⟩:=hv.cell 0 _ rfl
   obtain ⟨z1,_⟩:=hv.cell 1 _ rfl
   obtain ⟨z2,_⟩:=hv.cell 2 _ rfl
   obtain ⟨z3,_⟩:=hv.cell 3 _ rfl
   obtain ⟨z4,_⟩:=hv.cell 4 _ rfl
   obtain ⟨z5,_⟩:=hv.cell 5 _ rfl
   obtain ⟨z6,_⟩:=hv.cell 6 _ rfl
   obtain ⟨z7,_⟩:=hv.cell 7 _ rfl
   obtain ⟨z8,_⟩:=hv.cell 8 _ rfl
   exact .inl (by go_simp)
  refine wpAnyR_takeL (i:=6) (kw:=2) (v:=.int .i64 t) (fun _=>bl_refl _) (fun p q=>bl_trans p q) rfl rfl (by kernel_rfl) (by kernel_rfl) (by kernel_rfl) (by kernel_rfl) (fun _ _ _ h=>h) HC6 (Or.inl ⟨by kernel_rfl,fun W' hI=>?_⟩) (fun HC7=>?_)
  ·exact .inr ⟨137,#[.agg #[.slice A1 b.st.length e1c,.slice (some ⟨b2,o2,none⟩) b.bt.length e2c,.slice A3 b.pd.length e3c,.slice A4 b.fo.length e4c,.slice (some ⟨b5,o5,none⟩) b.ac.length e5c,.int .i64 b.tu,.int .i64 b.un,.int .i64 b.ra,.int .i64 b.li]],by go_simp,KM.out W' (HRD.out.below hI).rd⟩
  refine wpAnyR_takeL (i:=7) (kw:=1) (v:=.bool (decide (x < t))) (fun _=>bl_refl _) (fun p q=>bl_trans p q) rfl rfl (by kernel_rfl) (by kernel_rfl) (by kernel_rfl) (by kernel_rfl) (fun _ _ _ h=>h) HC7 (Or.inl ⟨by kernel_rfl,fun W' hI=>?_⟩) (fun HC8=>?_)
  ·exact .inl (by go_simp)
  refine wpAnyR_lastL (by kernel_rfl) (by kernel_rfl) rfl (by kernel_rfl) (fun wR hrR=>⟨bl_drewT hrR,?_⟩)
  intro K hK
  have BR:=Lib.hid (bl_drewT hrR)
  clear hrR
  go_simp
  refine hK _ _ ?_
  clear hK K
  have HNR:=Lib.hid (HN.out.below BR.out)
  have h5:=H5.out _ BR.out
  have HNR1:=HNR.out
  obtain ⟨y0,-⟩:=HNR1.cell 0 _ rfl
  obtain ⟨y1,-⟩:=HNR1.cell 1 _ rfl
  obtain ⟨y2,-⟩:=HNR1.cell 2 _ rfl
  obtain ⟨y3,-⟩:=HNR1.cell 3 _ rfl
  obtain ⟨y4,-⟩:=HNR1.cell 4 _ rfl
  obtain ⟨y5,-⟩:=HNR1.cell 5 _ rfl
  obtain ⟨y6,-⟩:=HNR1.cell 6 _ rfl
  obtain ⟨y7,-⟩:=HNR1.cell 7 _ rfl
  obtain ⟨y8,-⟩:=HNR1.cell 8 _ rfl
  clear HNR1
  go_wp2_with (first
    | (go_at_call 158;refine (KC.out _ (HRD.out.below BR.out).rd).mono ?_;rintro e w3 ⟨rfl,hb3⟩;have B3:=Lib.hid (bl_trans BR.out hb3);have HN3:=Lib.hid (HN.out.below B3.out);have h53:=H5.out _ B3.out;obtain ⟨u0,-⟩:=HN3.out.cell 0 _ rfl;obtain ⟨u1,-⟩:=HN3.out.cell 1 _ rfl;obtain ⟨u2,-⟩:=HN3.out.cell 2 _ rfl;obtain ⟨u3,-⟩:=HN3.out.cell 3 _ rfl;obtain ⟨u4,-⟩:=HN3.out.cell 4 _ rfl;obtain ⟨u5,-⟩:=HN3.out.cell 5 _ rfl;obtain ⟨u6,-⟩:=HN3.out.cell 6 _ rfl;obtain ⟨u7,-⟩:=HN3.out.cell 7 _ rfl;obtain ⟨u8,-⟩:=HN3.out.cell 8 _ rfl))
  go_ret
  exact ⟨ret_bool HV.out.symm,bl_trans B.out B3.out⟩
 obtain rfl : ano = decide (1 < n):=HA.out rfl
 by_cases c1 : x < t
 ·have c2 : decide (x < t) = true:=decide_eq_true c1
  have HV : Hid (mustB b i = true):=Lib.hid (by rw [H.out];simp [c1])
  clear H HA
  go_enter Try.func107,Try.ntmps107
  go_wp2_with fail
  refine wp_region_W (last:=8) (k:=8) hmx rfl (fun HC0=>?_)
  refine wpAnyR_takeL (i:=0) (kw:=5) (v:=.pointer (some ⟨w.heap.size,1,none⟩)) (fun _=>bl_refl _) (fun p q=>bl_trans p q) rfl rfl (by kernel_rfl) (by kernel_rfl) (by kernel_rfl) (by kernel_rfl) (fun _ _ _ h=>h) HC0 (Or.inl ⟨by kernel_rfl,fun W' hI=>?_⟩) (fun HC1=>?_)
  ·exact .inl (by go_simp)
  refine wpAnyR_takeL (i:=1) (kw:=4) (v:=.slice (some ⟨b2,o2,none⟩) b.bt.length e2c) (fun _=>bl_refl _) (fun p q=>bl_trans p q) rfl rfl (by kernel_rfl) (by kernel_rfl) (by kernel_rfl) (by kernel_rfl) (fun _ _ _ h=>h) HC1 (Or.inl ⟨by kernel_rfl,fun W' hI=>?_⟩) (fun HC2=>?_)
  ·have hv:=(HN.out).below hI
   obtain ⟨z1,_⟩:=hv.cell 1 _ rfl
   exact .inl (by go_simp)
  refine wpAnyR_takeL (i:=2) (kw:=4) (v:=.int .i64 i) (fun _=>bl_refl _) (fun p q=>bl_trans p q) rfl rfl (by kernel_rfl) (by kernel_rfl) (by kernel_rfl) (by kernel_rfl) (fun _ _ _ h=>h) HC2 (Or.inl ⟨by kernel_rfl,fun W' hI=>?_⟩) (fun HC3=>?_)
  ·exact .inl (by go_simp)
  refine wpAnyR_takeL (i:=3) (kw:=3) (v:=.pointer (some ⟨b2,o2 + i,none⟩)) (fun _=>bl_refl _) (fun p q=>bl_trans p q) rfl rfl (by kernel_rfl) (by kernel_rfl) (by kernel_rfl) (by kernel_rfl) (fun _ _ _ h=>h) HC3 (Or.inl ⟨by kernel_rfl,fun W' hI=>?_⟩) (fun HC4=>?_)
  ·exact .inl (by go_simp)
  refine wpAnyR_takeL (i:=4) (kw:=2) (v:=.int .i64 x) (fun _=>bl_refl _) (fun p q=>bl_trans p q) rfl rfl (by kernel_rfl) (by kernel_rfl) (by kernel_rfl) (by kernel_rfl) (fun _ _ _ h=>h) HC4 (Or.inl ⟨by kernel_rfl,fun W' hI=>?_⟩) (fun HC5=>?_)
  ·have hx:=H2.out W' hI
   exact .inl (by go_simp)
  refine wpAnyR_takeL (i:=5) (kw:=3) (v:=.agg #[.slice A1 b.st.length e1c,.slice (some ⟨b2,o2,none⟩) b.bt.length e2c,.slice A3 b.pd.length e3c,.slice A4 b.fo.length e4c,.slice (some ⟨b5,o5,none⟩) b.ac.length e5c,.int .i64 b.tu,.int .i64 b.un,.int .i64 b.ra,.int .i64 b.li]) (fun _=>bl_refl _) (fun p q=>bl_trans p q) rfl rfl (by kernel_rfl) (by kernel_rfl) (by kernel_rfl) (by kernel_rfl) (fun _ _ _ h=>h) HC5 (Or.inl ⟨by kernel_rfl,fun W' hI=>?_⟩) (fun HC6=>?_)
  ·have hv:=(HN.out).below hI
   obtain ⟨z0,_⟩:=hv.cell 0 _ rfl
   obtain ⟨z1,_⟩:=hv.cell 1 _ rfl
   obtain ⟨z2,_⟩:=hv.cell 2 _ rfl
   obtain ⟨z3,_⟩:=hv.cell 3 _ rfl
   obtain ⟨z4,_⟩:=hv.cell 4 _ rfl
   obtain ⟨z5,_⟩:=hv.cell 5 _ rfl
   obtain ⟨z6,_⟩:=hv.cell 6 _ rfl
   obtain ⟨z7,_⟩:=hv.cell 7 _ rfl
   obtain ⟨z8,_⟩:=hv.cell 8 _ rfl
   exact .inl (by go_simp)
  refine wpAnyR_takeL (i:=6) (kw:=2) (v:=.int .i64 t) (fun _=>bl_refl _) (fun p q=>bl_trans p q) rfl rfl (by kernel_rfl) (by kernel_rfl) (by kernel_rfl) (by kernel_rfl) (fun _ _ _ h=>h) HC6 (Or.inl ⟨by kernel_rfl,fun W' hI=>?_⟩) (fun HC7=>?_)
  ·exact .inr ⟨137,#[.agg #[.slice A1 b.st.length e1c,.slice (some ⟨b2,o2,none⟩) b.bt.length e2c,.slice A3 b.pd.length e3c,.slice A4 b.fo.length e4c,.slice (some ⟨b5,o5,none⟩) b.ac.length e5c,.int .i64 b.tu,.int .i64 b.un,.int .i64 b.ra,.int .i64 b.li]],by go_simp,KM.out W' (HRD.out.below hI).rd⟩
  refine wpAnyR_takeL (i:=7) (kw:=1) (v:=.bool true) (fun _=>bl_refl _) (fun p q=>bl_trans p q) rfl rfl (by kernel_rfl) (by kernel_rfl) (by kernel_rfl) (by kernel_rfl) (fun _ _ _ h=>h) HC7 (Or.inl ⟨by kernel_rfl,fun W' hI=>?_⟩) (fun HC8=>?_)
  ·exact .inl (by go_simp)
  refine wpAnyR_lastL (by kernel_rfl) (by kernel_rfl) rfl (by kernel_rfl) (fun wR hrR=>⟨bl_drewT hrR,?_⟩)
  intro K hK
  have BR:=Lib.hid (bl_drewT hrR)
  clear hrR
  go_simp
  refine hK _ _ ?_
  clear hK K
  have HNR:=Lib.hid (HN.out.below BR.out)
  have h5:=H5.out _ BR.out
  have HNR1:=HNR.out
  obtain ⟨y0,-⟩:=HNR1.cell 0 _ rfl
  obtain ⟨y1,-⟩:=HNR1.cell 1 _ rfl
  obtain ⟨y2,-⟩:=HNR1.cell 2 _ rfl
  obtain ⟨y3,-⟩:=HNR1.cell 3 _ rfl
  obtain ⟨y4,-⟩:=HNR1.cell 4 _ rfl
  obtain ⟨y5,-⟩:=HNR1.cell 5 _ rfl
  obtain ⟨y6,-⟩:=HNR1.cell 6 _ rfl
  obtain ⟨y7,-⟩:=HNR1.cell 7 _ rfl
  obtain ⟨y8,-⟩:=HNR1.cell 8 _ rfl
  clear HNR1
  go_wp2_with (first
    | (go_at_call 158;refine (KC.out _ (HRD.out.below BR.out).rd).mono ?_;rintro e w3 ⟨rfl,hb3⟩;have B3:=Lib.hid (bl_trans BR.out hb3);have HN3:=Lib.hid (HN.out.below B3.out);have h53:=H5.out _ B3.out;obtain ⟨u0,-⟩:=HN3.out.cell 0 _ rfl;obtain ⟨u1,-⟩:=HN3.out.cell 1 _ rfl;obtain ⟨u2,-⟩:=HN3.out.cell 2 _ rfl;obtain ⟨u3,-⟩:=HN3.out.cell 3 _ rfl;obtain ⟨u4,-⟩:=HN3.out.cell 4 _ rfl;obtain ⟨u5,-⟩:=HN3.out.cell 5 _ rfl;obtain ⟨u6,-⟩:=HN3.out.cell 6 _ rfl;obtain ⟨u7,-⟩:=HN3.out.cell 7 _ rfl;obtain ⟨u8,-⟩:=HN3.out.cell 8 _ rfl))
  go_ret
  exact ⟨ret_bool HV.out.symm,bl_trans B.out B3.out⟩
 have c2 : decide (x < t) = false:=decide_eq_false c1
 rcases a with _ | _
 rotate_left
 ·have HV : Hid (mustB b i = false):=Lib.hid (by rw [H.out];simp [c2])
  clear H HA
  go_enter Try.func107,Try.ntmps107
  go_wp2_with fail
  refine wp_region_W (last:=8) (k:=8) hmx rfl (fun HC0=>?_)
  refine wpAnyR_takeL (i:=0) (kw:=5) (v:=.pointer (some ⟨w.heap.size,1,none⟩)) (fun _=>bl_refl _) (fun p q=>bl_trans p q) rfl rfl (by kernel_rfl) (by kernel_rfl) (by kernel_rfl) (by kernel_rfl) (fun _ _ _ h=>h) HC0 (Or.inl ⟨by kernel_rfl,fun W' hI=>?_⟩) (fun HC1=>?_)
  ·exact .inl (by go_simp)
  refine wpAnyR_takeL (i:=1) (kw:=4) (v:=.slice (some ⟨b2,o2,none⟩) b.bt.length e2c) (fun _=>bl_refl _) (fun p q=>bl_trans p q) rfl rfl (by kernel_rfl) (by kernel_rfl) (by kernel_rfl) (by kernel_rfl) (fun _ _ _ h=>h) HC1 (Or.inl ⟨by kernel_rfl,fun W' hI=>?_⟩) (fun HC2=>?_)
  ·have hv:=(HN.out).below hI
   obtain ⟨z1,_⟩:=hv.cell 1 _ rfl
   exact .inl (by go_simp)
  refine wpAnyR_takeL (i:=2) (kw:=4) (v:=.int .i64 i) (fun _=>bl_refl _) (fun p q=>bl_trans p q) rfl rfl (by kernel_rfl) (by kernel_rfl) (by kernel_rfl) (by kernel_rfl) (fun _ _ _ h=>h) HC2 (Or.inl ⟨by kernel_rfl,fun W' hI=>?_⟩) (fun HC3=>?_)
  ·exact .inl (by go_simp)
  refine wpAnyR_takeL (i:=3) (kw:=3) (v:=.pointer (some ⟨b2,o2 + i,none⟩)) (fun _=>bl_refl _) (fun p q=>bl_trans p q) rfl rfl (by kernel_rfl) (by kernel_rfl) (by kernel_rfl) (by kernel_rfl) (fun _ _ _ h=>h) HC3 (Or.inl ⟨by kernel_rfl,fun W' hI=>?_⟩) (fun HC4=>?_)
  ·exact .inl (by go_simp)
  refine wpAnyR_takeL (i:=4) (kw:=2) (v:=.int .i64 x) (fun _=>bl_refl _) (fun p q=>bl_trans p q) rfl rfl (by kernel_rfl) (by kernel_rfl) (by kernel_rfl) (by kernel_rfl) (fun _ _ _ h=>h) HC4 (Or.inl ⟨by kernel_rfl,fun W' hI=>?_⟩) (fun HC5=>?_)
  ·have hx:=H2.out W' hI
   exact .inl (by go_simp)
  refine wpAnyR_takeL (i:=5) (kw:=3) (v:=.agg #[.slice A1 b.st.length e1c,.slice (some ⟨b2,o2,none⟩) b.bt.length e2c,.slice A3 b.pd.length e3c,.slice A4 b.fo.length e4c,.slice (some ⟨b5,o5,none⟩) b.ac.length e5c,.int .i64 b.tu,.int .i64 b.un,.int .i64 b.ra,.int .i64 b.li]) (fun _=>bl_refl _) (fun p q=>bl_trans p q) rfl rfl (by kernel_rfl) (by kernel_rfl) (by kernel_rfl) (by kernel_rfl) (fun _ _ _ h=>h) HC5 (Or.inl ⟨by kernel_rfl,fun W' hI=>?_⟩) (fun HC6=>?_)
  ·have hv:=(HN.out).below hI
   obtain ⟨z0,_⟩:=hv.cell 0 _ rfl
   obtain ⟨z1,_⟩:=hv.cell 1 _ rfl
   obtain ⟨z2,_⟩:=hv.cell 2 _ rfl
   obtain ⟨z3,_⟩:=hv.cell 3 _ rfl
   obtain ⟨z4,_⟩:=hv.cell 4 _ rfl
   obtain ⟨z5,_⟩:=hv.cell 5 _ rfl
   obtain ⟨z6,_⟩:=hv.cell 6 _ rfl
   obtain ⟨z7,_⟩:=hv.cell 7 _ rfl
   obtain ⟨z8,_⟩:=hv.cell 8 _ rfl
   exact .inl (by go_simp)
  refine wpAnyR_takeL (i:=6) (kw:=2) (v:=.int .i64 t) (fun _=>bl_refl _) (fun p q=>bl_trans p q) rfl rfl (by kernel_rfl) (by kernel_rfl) (by kernel_rfl) (by kernel_rfl) (fun _ _ _ h=>h) HC6 (Or.inl ⟨by kernel_rfl,fun W' hI=>?_⟩) (fun HC7=>?_)
  ·exact .inr ⟨137,#[.agg #[.slice A1 b.st.length e1c,.slice (some ⟨b2,o2,none⟩) b.bt.length e2c,.slice A3 b.pd.length e3c,.slice A4 b.fo.length e4c,.slice (some ⟨b5,o5,none⟩) b.ac.length e5c,.int .i64 b.tu,.int .i64 b.un,.int .i64 b.ra,.int .i64 b.li]],by go_simp,KM.out W' (HRD.out.below hI).rd⟩
  refine wpAnyR_takeL (i:=7) (kw:=1) (v:=.bool false) (fun _=>bl_refl _) (fun p q=>bl_trans p q) rfl rfl (by kernel_rfl) (by kernel_rfl) (by kernel_rfl) (by kernel_rfl) (fun _ _ _ h=>h) HC7 (Or.inl ⟨by kernel_rfl,fun W' hI=>?_⟩) (fun HC8=>?_)
  ·exact .inl (by go_simp)
  refine wpAnyR_lastL (by kernel_rfl) (by kernel_rfl) rfl (by kernel_rfl) (fun wR hrR=>⟨bl_drewT hrR,?_⟩)
  intro K hK
  have BR:=Lib.hid (bl_drewT hrR)
  clear hrR
  go_simp
  refine hK _ _ ?_
  clear hK K
  have HNR:=Lib.hid (HN.out.below BR.out)
  have h5:=H5.out _ BR.out
  have HNR1:=HNR.out
  obtain ⟨y0,-⟩:=HNR1.cell 0 _ rfl
  obtain ⟨y1,-⟩:=HNR1.cell 1 _ rfl
  obtain ⟨y2,-⟩:=HNR1.cell 2 _ rfl
  obtain ⟨y3,-⟩:=HNR1.cell 3 _ rfl
  obtain ⟨y4,-⟩:=HNR1.cell 4 _ rfl
  obtain ⟨y5,-⟩:=HNR1.cell 5 _ rfl
  obtain ⟨y6,-⟩:=HNR1.cell 6 _ rfl
  obtain ⟨y7,-⟩:=HNR1.cell 7 _ rfl
  obtain ⟨y8,-⟩:=HNR1.cell 8 _ rfl
  clear HNR1
  go_wp2_with (first
    | (go_at_call 158;refine (KC.out _ (HRD.out.below BR.out).rd).mono ?_;rintro e w3 ⟨rfl,hb3⟩;have B3:=Lib.hid (bl_trans BR.out hb3);have HN3:=Lib.hid (HN.out.below B3.out);have h53:=H5.out _ B3.out;obtain ⟨u0,-⟩:=HN3.out.cell 0 _ rfl;obtain ⟨u1,-⟩:=HN3.out.cell 1 _ rfl;obtain ⟨u2,-⟩:=HN3.out.cell 2 _ rfl;obtain ⟨u3,-⟩:=HN3.out.cell 3 _ rfl;obtain ⟨u4,-⟩:=HN3.out.cell 4 _ rfl;obtain ⟨u5,-⟩:=HN3.out.cell 5 _ rfl;obtain ⟨u6,-⟩:=HN3.out.cell 6 _ rfl;obtain ⟨u7,-⟩:=HN3.out.cell 7 _ rfl;obtain ⟨u8,-⟩:=HN3.out.cell 8 _ rfl))
  go_ret
  exact ⟨ret_bool HV.out.symm,bl_trans B.out B3.out⟩
 obtain ⟨dn,edn⟩ : ∃ dn : Bool,dn = decide (1 < n):=⟨_,rfl⟩
 ·have HV : Hid (mustB b i = decide (1 < n)):=Lib.hid (by rw [H.out];simp [c2])
  clear H HA
  go_enter Try.func107,Try.ntmps107
  go_wp2_with fail
  refine wp_region_W (last:=8) (k:=8) hmx rfl (fun HC0=>?_)
  refine wpAnyR_takeL (i:=0) (kw:=5) (v:=.pointer (some ⟨w.heap.size,1,none⟩)) (fun _=>bl_refl _) (fun p q=>bl_trans p q) rfl rfl (by kernel_rfl) (by kernel_rfl) (by kernel_rfl) (by kernel_rfl) (fun _ _ _ h=>h) HC0 (Or.inl ⟨by kernel_rfl,fun W' hI=>?_⟩) (fun HC1=>?_)
  ·exact .inl (by go_simp)
  refine wpAnyR_takeL (i:=1) (kw:=4) (v:=.slice (some ⟨b2,o2,none⟩) b.bt.length e2c) (fun _=>bl_refl _) (fun p q=>bl_trans p q) rfl rfl (by kernel_rfl) (by kernel_rfl) (by kernel_rfl) (by kernel_rfl) (fun _ _ _ h=>h) HC1 (Or.inl ⟨by kernel_rfl,fun W' hI=>?_⟩) (fun HC2=>?_)
  ·have hv:=(HN.out).below hI
   obtain ⟨z1,_⟩:=hv.cell 1 _ rfl
   exact .inl (by go_simp)
  refine wpAnyR_takeL (i:=2) (kw:=4) (v:=.int .i64 i) (fun _=>bl_refl _) (fun p q=>bl_trans p q) rfl rfl (by kernel_rfl) (by kernel_rfl) (by kernel_rfl) (by kernel_rfl) (fun _ _ _ h=>h) HC2 (Or.inl ⟨by kernel_rfl,fun W' hI=>?_⟩) (fun HC3=>?_)
  ·exact .inl (by go_simp)
  refine wpAnyR_takeL (i:=3) (kw:=3) (v:=.pointer (some ⟨b2,o2 + i,none⟩)) (fun _=>bl_refl _) (fun p q=>bl_trans p q) rfl rfl (by kernel_rfl) (by kernel_rfl) (by kernel_rfl) (by kernel_rfl) (fun _ _ _ h=>h) HC3 (Or.inl ⟨by kernel_rfl,fun W' hI=>?_⟩) (fun HC4=>?_)
  ·exact .inl (by go_simp)
  refine wpAnyR_takeL (i:=4) (kw:=2) (v:=.int .i64 x) (fun _=>bl_refl _) (fun p q=>bl_trans p q) rfl rfl (by kernel_rfl) (by kernel_rfl) (by kernel_rfl) (by kernel_rfl) (fun _ _ _ h=>h) HC4 (Or.inl ⟨by kernel_rfl,fun W' hI=>?_⟩) (fun HC5=>?_)
  ·have hx:=H2.out W' hI
   exact .inl (by go_simp)
  refine wpAnyR_takeL (i:=5) (kw:=3) (v:=.agg #[.slice A1 b.st.length e1c,.slice (some ⟨b2,o2,none⟩) b.bt.length e2c,.slice A3 b.pd.length e3c,.slice A4 b.fo.length e4c,.slice (some ⟨b5,o5,none⟩) b.ac.length e5c,.int .i64 b.tu,.int .i64 b.un,.int .i64 b.ra,.int .i64 b.li]) (fun _=>bl_refl _) (fun p q=>bl_trans p q) rfl rfl (by kernel_rfl) (by kernel_rfl) (by kernel_rfl) (by kernel_rfl) (fun _ _ _ h=>h) HC5 (Or.inl ⟨by kernel_rfl,fun W' hI=>?_⟩) (fun HC6=>?_)
  ·have hv:=(HN.out).below hI
   obtain ⟨z0,_⟩:=hv.cell 0 _ rfl
   obtain ⟨z1,_⟩:=hv.cell 1 _ rfl
   obtain ⟨z2,_⟩:=hv.cell 2 _ rfl
   obtain ⟨z3,_⟩:=hv.cell 3 _ rfl
   obtain ⟨z4,_⟩:=hv.cell 4 _ rfl
   obtain ⟨z5,_⟩:=hv.cell 5 _ rfl
   obtain ⟨z6,_⟩:=hv.cell 6 _ rfl
   obtain ⟨z7,_⟩:=hv.cell 7 _ rfl
   obtain ⟨z8,_⟩:=hv.cell 8 _ rfl
   exact .inl (by go_simp)
  refine wpAnyR_takeL (i:=6) (kw:=2) (v:=.int .i64 t) (fun _=>bl_refl _) (fun p q=>bl_trans p q) rfl rfl (by kernel_rfl) (by kernel_rfl) (by kernel_rfl) (by kernel_rfl) (fun _ _ _ h=>h) HC6 (Or.inl ⟨by kernel_rfl,fun W' hI=>?_⟩) (fun HC7=>?_)
  ·exact .inr ⟨137,#[.agg #[.slice A1 b.st.length e1c,.slice (some ⟨b2,o2,none⟩) b.bt.length e2c,.slice A3 b.pd.length e3c,.slice A4 b.fo.length e4c,.slice (some ⟨b5,o5,none⟩) b.ac.length e5c,.int .i64 b.tu,.int .i64 b.un,.int .i64 b.ra,.int .i64 b.li]],by go_simp,KM.out W' (HRD.out.below hI).rd⟩
  refine wpAnyR_takeL (i:=7) (kw:=1) (v:=.bool false) (fun _=>bl_refl _) (fun p q=>bl_trans p q) rfl rfl (by kernel_rfl) (by kernel_rfl) (by kernel_rfl) (by kernel_rfl) (fun _ _ _ h=>h) HC7 (Or.inl ⟨by kernel_rfl,fun W' hI=>?_⟩) (fun HC8=>?_)
  ·exact .inl (by go_simp)
  refine wpAnyR_lastL (by kernel_rfl) (by kernel_rfl) rfl (by kernel_rfl) (fun wR hrR=>⟨bl_drewT hrR,?_⟩)
  intro K hK
  have BR:=Lib.hid (bl_drewT hrR)
  clear hrR
  go_simp
  refine hK _ _ ?_
  clear hK K
  have HNR:=Lib.hid (HN.out.below BR.out)
  have h5:=H5.out _ BR.out
  have HNR1:=HNR.out
  obtain ⟨y0,-⟩:=HNR1.cell 0 _ rfl
  obtain ⟨y1,-⟩:=HNR1.cell 1 _ rfl
  obtain ⟨y2,-⟩:=HNR1.cell 2 _ rfl
  obtain ⟨y3,-⟩:=HNR1.cell 3 _ rfl
  obtain ⟨y4,-⟩:=HNR1.cell 4 _ rfl
  obtain ⟨y5,-⟩:=HNR1.cell 5 _ rfl
  obtain ⟨y6,-⟩:=HNR1.cell 6 _ rfl
  obtain ⟨y7,-⟩:=HNR1.cell 7 _ rfl
  obtain ⟨y8,-⟩:=HNR1.cell 8 _ rfl
  clear HNR1
  go_wp2_with (first
    | (go_at_call 158;refine (KC.out _ (HRD.out.below BR.out).rd).mono ?_;rintro e w3 ⟨rfl,hb3⟩;have B3:=Lib.hid (bl_trans BR.out hb3);have HN3:=Lib.hid (HN.out.below B3.out);have h53:=H5.out _ B3.out;obtain ⟨u0,-⟩:=HN3.out.cell 0 _ rfl;obtain ⟨u1,-⟩:=HN3.out.cell 1 _ rfl;obtain ⟨u2,-⟩:=HN3.out.cell 2 _ rfl;obtain ⟨u3,-⟩:=HN3.out.cell 3 _ rfl;obtain ⟨u4,-⟩:=HN3.out.cell 4 _ rfl;obtain ⟨u5,-⟩:=HN3.out.cell 5 _ rfl;obtain ⟨u6,-⟩:=HN3.out.cell 6 _ rfl;obtain ⟨u7,-⟩:=HN3.out.cell 7 _ rfl;obtain ⟨u8,-⟩:=HN3.out.cell 8 _ rfl)
    | (go_at_call 111;refine (KN.out _ (HRD.out.below B3.out).rd).mono ?_;rintro e w4 ⟨rfl,hb4⟩;have B4:=Lib.hid (bl_trans B3.out hb4)))
  go_ret
  exact ⟨ret_bool HV.out.symm,bl_trans B.out B4.out⟩
theorem l10HasT_any (L : At5) (b : Bt) (w : World) (h : Rd5 w L b) (k : Ok b) :
  Calls Try.prog 107 #[bV L b,.int .i64 b.tu] w (Fresh (.bool (openB b)) w):=by
 obtain ⟨i,hi⟩:=Int.eq_ofNat_of_zero_le k.t0
 have q:=l10Has_any L b i w h k.sd (by have:=k.t1;omega)
 rw [show openB b = mustB b i by unfold openB;rw [hi];rfl,hi]
 exact q
set_option maxRecDepth 100000 in
set_option maxHeartbeats 400000 in
theorem l10Code_any (L : At5) (b : Bt) (w : World) (h : Rd5 w L b) (z : Sz b) :
  Calls Try.prog 69 #[bV L b] w (Fresh (.int .i64 (codeB b)) w):=by
 have KV:=Lib.hid (fun (W : World) (hb : Below w.heap.size w W)=>specIsBetting_any L b W (h.below hb) z)
 have KH:=Lib.hid (fun (k : Ok b) (W : World) (hW : Rd5 W L b)=>l10HasT_any L b W hW k)
 have BT:=btAt_new h
 have B:=Lib.hid (bl_box (w:=w) (L:=L) (b:=b))
 have BN:=Lib.hid BT
 obtain ⟨q0,_⟩:=BT.blk.cell 0 _ rfl
 obtain ⟨q1,_⟩:=BT.blk.cell 1 _ rfl
 obtain ⟨q2,_⟩:=BT.blk.cell 2 _ rfl
 obtain ⟨q3,_⟩:=BT.blk.cell 3 _ rfl
 obtain ⟨q4,_⟩:=BT.blk.cell 4 _ rfl
 obtain ⟨q5,_⟩:=BT.blk.cell 5 _ rfl
 obtain ⟨q6,_⟩:=BT.blk.cell 6 _ rfl
 obtain ⟨q7,_⟩:=BT.blk.cell 7 _ rfl
 obtain ⟨q8,_⟩:=BT.blk.cell 8 _ rfl
 clear h BT z
 rcases hv : okB b with _ | _
 ·rw [codeB_no hv]
  rw [hv] at KV
  clear KH hv
  unfold bV at *
  go_enter Try.func69,Try.ntmps69
  go_wp2_with (first
    | (go_at_call 18;refine (KV.out _ B.out).mono ?_;rintro e w2 ⟨rfl,hb⟩;have BNa:=Lib.hid (BN.out.below hb);have Ba:=Lib.hid (bl_trans B.out hb);obtain ⟨u0,-⟩:=BNa.out.blk.cell 0 _ rfl;obtain ⟨u1,-⟩:=BNa.out.blk.cell 1 _ rfl;obtain ⟨u2,-⟩:=BNa.out.blk.cell 2 _ rfl;obtain ⟨u3,-⟩:=BNa.out.blk.cell 3 _ rfl;obtain ⟨u4,-⟩:=BNa.out.blk.cell 4 _ rfl;obtain ⟨u5,-⟩:=BNa.out.blk.cell 5 _ rfl;obtain ⟨u6,-⟩:=BNa.out.blk.cell 6 _ rfl;obtain ⟨u7,-⟩:=BNa.out.blk.cell 7 _ rfl;obtain ⟨u8,-⟩:=BNa.out.blk.cell 8 _ rfl))
  go_ret
  exact ⟨rfl,Ba.out⟩
 ·have e1 : codeB b = if openB b = true then 0 else 5:=by unfold codeB;rw [hv];rfl
  have KK:=Lib.hid (KH.out (ok_of hv))
  rw [hv] at KV
  rw [e1]
  clear KH hv e1
  unfold bV at *
  generalize openB b = r at *
  rcases r with _ | _
  all_goals
   go_enter Try.func69,Try.ntmps69
   go_wp2_with (first
     | (go_at_call 18;refine (KV.out _ B.out).mono ?_;rintro e w2 ⟨rfl,hb⟩;have BNa:=Lib.hid (BN.out.below hb);have Ba:=Lib.hid (bl_trans B.out hb);obtain ⟨u0,-⟩:=BNa.out.blk.cell 0 _ rfl;obtain ⟨u1,-⟩:=BNa.out.blk.cell 1 _ rfl;obtain ⟨u2,-⟩:=BNa.out.blk.cell 2 _ rfl;obtain ⟨u3,-⟩:=BNa.out.blk.cell 3 _ rfl;obtain ⟨u4,-⟩:=BNa.out.blk.cell 4 _ rfl;obtain ⟨u5,-⟩:=BNa.out.blk.cell 5 _ rfl;obtain ⟨u6,-⟩:=BNa.out.blk.cell 6 _ rfl;obtain ⟨u7,-⟩:=BNa.out.blk.cell 7 _ rfl;obtain ⟨u8,-⟩:=BNa.out.blk.cell 8 _ rfl)
     | (go_at_call 107;refine (KK.out _ BNa.out.rd).mono ?_;rintro e w3 ⟨rfl,hb3⟩;have Bb:=Lib.hid (bl_trans Ba.out hb3)))
   go_ret
   exact ⟨rfl,Bb.out⟩
end Go.Proofs.Ytnllndcajdofjaa
