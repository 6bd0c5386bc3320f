/-
 The model: who has to act, open rounds, sums, the seats that have not folded.
-/
import Derived.Test.YtnllndcajdofjaaQaSpecBetV
namespace Go.Proofs.Ytnllndcajdofjaa
open Go.RowKit
set_option linter.unusedVariables false

theorem own_ne_blkQ {W : World} {lo g : Nat} {v : Value} {ys : List Int} {vs : List Value} {t : TypeId} (ho : Own W lo v ys) (hb : Blk W g t vs) (ht : t ≠ 2) : some g ≠ v.ownBlock:=by
 intro e
 rcases ho.2 with ⟨rfl,_⟩ | ⟨g',cap,cur,rfl,_,hh,_⟩
 ·cases e
 ·have : g = g':=by injection e
  subst this
  have hb' : W.heap[g]? = some (.cells vs.toArray t):=hb
  rw [hh] at hb'
  injection hb' with q
  injection q with _ q2
  exact ht q2.symm
set_option maxRecDepth 100000 in
set_option maxHeartbeats 2000000 in
theorem l10Has_any (L : At5) (b : Bt) (i : Nat) (w : World) (h : Rd5 w L b) (k : Sd b) (hi : i < b.st.length) :
  Calls Try.prog 107 #[bV L b,.int .i64 i] w (Fresh (.bool (mustB b i)) w):=by
 have hmx : Try.prog.follows .mixedOrders = true:=by kernel_rfl
 have n6:=k.n6
 have l2:=k.l2
 have l4:=k.l4
 have l5:=k.l5
 have d1 : (i : Int) < b.st.length:=by omega
 have d2 : (i : Int) < b.bt.length:=by omega
 have d5 : (i : Int) < b.ac.length:=by omega
 obtain ⟨A1,A2,A3,A4,A5,e1c,e2c,e3c,e4c,e5c⟩:=L
 have r2 : Rd w A2 b.bt:=h.r2
 have r5 : RdB w A5 b.ac:=h.r5
 obtain ⟨b2,o2,rfl,hc2⟩:=r2.at_0 i (by omega)
 obtain ⟨b5,o5,rfl,hc5⟩:=r5.at_0 i (by omega)
 have BT : BtAt (w.alloc (.cells ([.slice A1 b.st.length e1c,.slice (some ⟨b2,o2,none⟩) b.bt.length e2c,.slice A3 b.pd.length e3c,.slice A4 b.fo.length e4c,.slice (some ⟨b5,o5,none⟩) b.ac.length e5c,.int .i64 b.tu,.int .i64 b.un,.int .i64 b.ra,.int .i64 b.li] : List Value).toArray 27)) w.heap.size ⟨A1,some ⟨b2,o2,none⟩,A3,A4,some ⟨b5,o5,none⟩,e1c,e2c,e3c,e4c,e5c⟩ b:=btAt_new h
 have B : Hid (Below w.heap.size w (w.alloc (.cells ([.slice A1 b.st.length e1c,.slice (some ⟨b2,o2,none⟩) b.bt.length e2c,.slice A3 b.pd.length e3c,.slice A4 b.fo.length e4c,.slice (some ⟨b5,o5,none⟩) b.ac.length e5c,.int .i64 b.tu,.int .i64 b.un,.int .i64 b.ra,.int .i64 b.li] : List Value).toArray 27))):=Lib.hid (bl_alloc (bl_refl w) _)
 have H2 : Hid (∀ W',Below (w.alloc (.cells ([.slice A1 b.st.length e1c,.slice (some ⟨b2,o2,none⟩) b.bt.length e2c,.slice A3 b.pd.length e3c,.slice A4 b.fo.length e4c,.slice (some ⟨b5,o5,none⟩) b.ac.length e5c,.int .i64 b.tu,.int .i64 b.un,.int .i64 b.ra,.int .i64 b.li] : List Value).toArray 27)).heap.size (w.alloc (.cells ([.slice A1 b.st.length e1c,.slice (some ⟨b2,o2,none⟩) b.bt.length e2c,.slice A3 b.pd.length e3c,.slice A4 b.fo.length e4c,.slice (some ⟨b5,o5,none⟩) b.ac.length e5c,.int .i64 b.tu,.int .i64 b.un,.int .i64 b.ra,.int .i64 b.li] : List Value).toArray 27)) W' → W'.cell? ⟨b2,o2 + i,none⟩ = some (.int .i64 (nth b.bt i))):=Lib.hid (fun W' hI=>((bl_trans B.out hI).cell (p:=⟨b2,o2 + i,none⟩) (World.block_lt_of_cell? _ _ hc2)).trans hc2)
 have H5 : Hid (∀ W',Below (w.alloc (.cells ([.slice A1 b.st.length e1c,.slice (some ⟨b2,o2,none⟩) b.bt.length e2c,.slice A3 b.pd.length e3c,.slice A4 b.fo.length e4c,.slice (some ⟨b5,o5,none⟩) b.ac.length e5c,.int .i64 b.tu,.int .i64 b.un,.int .i64 b.ra,.int .i64 b.li] : List Value).toArray 27)).heap.size (w.alloc (.cells ([.slice A1 b.st.length e1c,.slice (some ⟨b2,o2,none⟩) b.bt.length e2c,.slice A3 b.pd.length e3c,.slice A4 b.fo.length e4c,.slice (some ⟨b5,o5,none⟩) b.ac.length e5c,.int .i64 b.tu,.int .i64 b.un,.int .i64 b.ra,.int .i64 b.li] : List Value).toArray 27)) W' → W'.cell? ⟨b5,o5 + i,none⟩ = some (.bool (nthB b.ac i))):=Lib.hid (fun W' hI=>((bl_trans B.out hI).cell (p:=⟨b5,o5 + i,none⟩) (World.block_lt_of_cell? _ _ hc5)).trans hc5)
 have KC : Hid (∀ W : World,Rd5 W ⟨A1,some ⟨b2,o2,none⟩,A3,A4,some ⟨b5,o5,none⟩,e1c,e2c,e3c,e4c,e5c⟩ b → Calls Try.prog 158 #[.agg #[.slice A1 b.st.length e1c,.slice (some ⟨b2,o2,none⟩) b.bt.length e2c,.slice A3 b.pd.length e3c,.slice A4 b.fo.length e4c,.slice (some ⟨b5,o5,none⟩) b.ac.length e5c,.int .i64 b.tu,.int .i64 b.un,.int .i64 b.ra,.int .i64 b.li],.int .i64 i] W (Fresh (.bool (canB b i)) W)):=Lib.hid (fun (W : World) hW=>l10Can_any ⟨A1,some ⟨b2,o2,none⟩,A3,A4,some ⟨b5,o5,none⟩,e1c,e2c,e3c,e4c,e5c⟩ b i W hW hi l4)
 have KM : Hid (∀ W : World,Rd5 W ⟨A1,some ⟨b2,o2,none⟩,A3,A4,some ⟨b5,o5,none⟩,e1c,e2c,e3c,e4c,e5c⟩ b → Calls Try.prog 137 #[.agg #[.slice A1 b.st.length e1c,.slice (some ⟨b2,o2,none⟩) b.bt.length e2c,.slice A3 b.pd.length e3c,.slice A4 b.fo.length e4c,.slice (some ⟨b5,o5,none⟩) b.ac.length e5c,.int .i64 b.tu,.int .i64 b.un,.int .i64 b.ra,.int .i64 b.li]] W (Fresh (.int .i64 (topI b)) W)):=Lib.hid (fun (W : World) hW=>l10Match_any ⟨A1,some ⟨b2,o2,none⟩,A3,A4,some ⟨b5,o5,none⟩,e1c,e2c,e3c,e4c,e5c⟩ b W hW (by omega))
 have KN : Hid (∀ W : World,Rd5 W ⟨A1,some ⟨b2,o2,none⟩,A3,A4,some ⟨b5,o5,none⟩,e1c,e2c,e3c,e4c,e5c⟩ b → Calls Try.prog 111 #[.agg #[.slice A1 b.st.length e1c,.slice (some ⟨b2,o2,none⟩) b.bt.length e2c,.slice A3 b.pd.length e3c,.slice A4 b.fo.length e4c,.slice (some ⟨b5,o5,none⟩) b.ac.length e5c,.int .i64 b.tu,.int .i64 b.un,.int .i64 b.ra,.int .i64 b.li]] W (Fresh (.int .i64 (cntI b)) W)):=Lib.hid (fun (W : World) hW=>l10Count_any ⟨A1,some ⟨b2,o2,none⟩,A3,A4,some ⟨b5,o5,none⟩,e1c,e2c,e3c,e4c,e5c⟩ b W hW n6 l4)
 have HRD:=Lib.hid BT
 have HN : Hid (Blk (w.alloc (.cells ([.slice A1 b.st.length e1c,.slice (some ⟨b2,o2,none⟩) b.bt.length e2c,.slice A3 b.pd.length e3c,.slice A4 b.fo.length e4c,.slice (some ⟨b5,o5,none⟩) b.ac.length e5c,.int .i64 b.tu,.int .i64 b.un,.int .i64 b.ra,.int .i64 b.li] : List Value).toArray 27)) w.heap.size 27 [.slice A1 b.st.length e1c,.slice (some ⟨b2,o2,none⟩) b.bt.length e2c,.slice A3 b.pd.length e3c,.slice A4 b.fo.length e4c,.slice (some ⟨b5,o5,none⟩) b.ac.length e5c,.int .i64 b.tu,.int .i64 b.un,.int .i64 b.ra,.int .i64 b.li]):=Lib.hid BT.blk
 have HA:=Lib.hid (ano_cnt b i hi)
 have H : Hid (mustB b i = (canB b i && (decide (nth b.bt i < topI b) || (!nthB b.ac i && anoB b i)))):=Lib.hid rfl
 have HN1:=HN.out
 obtain ⟨q0,-⟩:=HN1.cell 0 _ rfl
 obtain ⟨q1,-⟩:=HN1.cell 1 _ rfl
 obtain ⟨q2,-⟩:=HN1.cell 2 _ rfl
 obtain ⟨q3,-⟩:=HN1.cell 3 _ rfl
 obtain ⟨q4,-⟩:=HN1.cell 4 _ rfl
 obtain ⟨q5,-⟩:=HN1.cell 5 _ rfl
 obtain ⟨q6,-⟩:=HN1.cell 6 _ rfl
 obtain ⟨q7,-⟩:=HN1.cell 7 _ rfl
 obtain ⟨q8,-⟩:=HN1.cell 8 _ rfl
 show Calls Try.prog 107 #[.agg #[.slice A1 b.st.length e1c,.slice (some ⟨b2,o2,none⟩) b.bt.length e2c,.slice A3 b.pd.length e3c,.slice A4 b.fo.length e4c,.slice (some ⟨b5,o5,none⟩) b.ac.length e5c,.int .i64 b.tu,.int .i64 b.un,.int .i64 b.ra,.int .i64 b.li],.int .i64 i] w _
 clear h BT k HN1 l2 l4 l5 hc2 hc5 hi r2 r5
 generalize topI b = t at *
 generalize nth b.bt i = x at *
 generalize nthB b.ac i = a at *
 generalize anoB b i = ano at *
 generalize canB b i = c at *
 generalize cntI b = n at *
 rcases c with _ | _
 ·have HV : Hid (mustB b i = false):=Lib.hid (by rw [H.out];simp)
  clear H HA
  go_enter Try.func107,Try.ntmps107
  go_wp2_with fail
  refine wp_region_W (last:=8) (k:=8) hmx rfl (fun HC0=>?_)
  refine wpAnyR_takeL (i:=0) (kw:=5) (v:=.pointer (some ⟨w.heap.size,1,none⟩)) (fun _=>bl_refl _) (fun p q=>bl_trans p q) rfl rfl (by kernel_rfl) (by kernel_rfl) (by kernel_rfl) (by kernel_rfl) (fun _ _ _ h=>h) HC0 (Or.inl ⟨by kernel_rfl,fun W' hI=>?_⟩) (fun HC1=>?_)
  ·exact .inl (by go_simp)
  refine wpAnyR_takeL (i:=1) (kw:=4) (v:=.slice (some ⟨b2,o2,none⟩) b.bt.length e2c) (fun _=>bl_refl _) (fun p q=>bl_trans p q) rfl rfl (by kernel_rfl) (by kernel_rfl) (by kernel_rfl) (by kernel_rfl) (fun _ _ _ h=>h) HC1 (Or.inl ⟨by kernel_rfl,fun W' hI=>?_⟩) (fun HC2=>?_)
  ·have hv:=(HN.out).below hI
   obtain ⟨z1,_⟩:=hv.cell 1 _ rfl
   exact .inl (by go_simp)
  refine wpAnyR_takeL (i:=2) (kw:=4) (v:=.int .i64 i) (fun _=>bl_refl _) (fun p q=>bl_trans p q) rfl rfl (by kernel_rfl) (by kernel_rfl) (by kernel_rfl) (by kernel_rfl) (fun _ _ _ h=>h) HC2 (Or.inl ⟨by kernel_rfl,fun W' hI=>?_⟩) (fun HC3=>?_)
  ·exact .inl (by go_simp)
  refine wpAnyR_takeL (i:=3) (kw:=3) (v:=.pointer (some ⟨b2,o2 + i,none⟩)) (fun _=>bl_refl _) (fun p q=>bl_trans p q) rfl rfl (by kernel_rfl) (by kernel_rfl) (by kernel_rfl) (by kernel_rfl) (fun _ _ _ h=>h) HC3 (Or.inl ⟨by kernel_rfl,fun W' hI=>?_⟩) (fun HC4=>?_)
  ·exact .inl (by go_simp)
  refine wpAnyR_takeL (i:=4) (kw:=2) (v:=.int .i64 x) (fun _=>bl_refl _) (fun p q=>bl_trans p q) rfl rfl (by kernel_rfl) (by kernel_rfl) (by kernel_rfl) (by kernel_rfl) (fun _ _ _ h=>h) HC4 (Or.inl ⟨by kernel_rfl,fun W' hI=>?_⟩) (fun HC5=>?_)
  ·have hx:=H2.out W' hI
   exact .inl (by go_simp)
  refine wpAnyR_takeL (i:=5) (kw:=3) (v:=.agg #[.slice A1 b.st.length e1c,.slice (some ⟨b2,o2,none⟩) b.bt.length e2c,.slice A3 b.pd.length e3c,.slice A4 b.fo.length e4c,.slice (some ⟨b5,o5,none⟩) b.ac.length e5c,.int .i64 b.tu,.int .i64 b.un,.int .i64 b.ra,.int .i64 b.li]) (fun _=>bl_refl _) (fun p q=>bl_trans p q) rfl rfl (by kernel_rfl) (by kernel_rfl) (by kernel_rfl) (by kernel_rfl) (fun _ _ _ h=>h) HC5 (Or.inl ⟨by kernel_rfl,fun W' hI=>?_⟩) (fun HC6=>?_)
  ·have hv:=(HN.out).below hI
   obtain ⟨z0,_⟩:=hv.cell 0 _ rfl
   obtain ⟨z1,_⟩:=hv.cell 1 _ rfl
   obtain ⟨z2,_⟩:=hv.cell 2 _ rfl
   obtain ⟨z3,_⟩:=hv.cell 3 _ rfl
   obtain ⟨z4,_⟩:=hv.cell 4 _ rfl
   obtain ⟨z5,_⟩:=hv.cell 5 _ rfl
   obtain ⟨z6,_⟩:=hv.cell 6 _ rfl
   obtain ⟨z7,_⟩:=hv.cell 7 _ rfl
   obtain ⟨z8,_⟩:=hv.cell 8 _ rfl
   exact .inl (by go_simp)
  refine wpAnyR_takeL (i:=6) (kw:=2) (v:=.int .i64 t) (fun _=>bl_refl _) (fun p q=>bl_trans p q) rfl rfl (by kernel_rfl) (by kernel_rfl) (by kernel_rfl) (by kernel_rfl) (fun _ _ _ h=>h) HC6 (Or.inl ⟨by kernel_rfl,fun W' hI=>?_⟩) (fun HC7=>?_)
  ·exact .inr ⟨137,#[.agg #[.slice A1 b.st.length e1c,.slice (some ⟨b2,o2,none⟩) b.bt.length e2c,.slice A3 b.pd.length e3c,.slice A4 b.fo.length e4c,.slice (some ⟨b5,o5,none⟩) b.ac.length e5c,.int .i64 b.tu,.int .i64 b.un,.int .i64 b.ra,.int .i64 b.li]],by go_simp,KM.out W' (HRD.out.below hI).rd⟩
  refine wpAnyR_takeL (i:=7) (kw:=1) (v:=.bool (decide (x < t))) (fun _=>bl_refl _) (fun p q=>bl_trans p q) rfl rfl (by kernel_rfl) (by kernel_rfl) (by kernel_rfl) (by kernel_rfl) (fun _ _ _ h=>h) HC7 (Or.inl ⟨by kernel_rfl,fun W' hI=>?_⟩) (fun HC8=>?_)
  ·exact .inl (by go_simp)
  refine wpAnyR_lastL (by kernel_rfl) (by kernel_rfl) rfl (by kernel_rfl) (fun wR hrR=>⟨bl_drewT hrR,?_⟩)
  intro K hK
  have BR:=Lib.hid (bl_drewT hrR)
  clear hrR
  go_simp
  refine hK _ _ ?_
  clear hK K
  have HNR:=Lib.hid (HN.out.below BR.out)
  have h5:=H5.out _ BR.out
  have HNR1:=HNR.out
  obtain ⟨y0,-⟩:=HNR1.cell 0 _ rfl
  obtain ⟨y1,-⟩:=HNR1.cell 1 _ rfl
  obtain ⟨y2,-⟩:=HNR1.cell 2 _ rfl
  obtain ⟨y3,-⟩:=HNR1.cell 3 _ rfl
  obtain ⟨y4,-⟩:=HNR1.cell 4 _ rfl
  obtain ⟨y5,-⟩:=HNR1.cell 5 _ rfl
  obtain ⟨y6,-⟩:=HNR1.cell 6 _ rfl
  obtain ⟨y7,-⟩:=HNR1.cell 7 _ rfl
  obtain ⟨y8,-⟩:=HNR1.cell 8 _ rfl
  clear HNR1
  go_wp2_with (first
    | (go_at_call 158;refine (KC.out _ (HRD.out.below BR.out).rd).mono ?_;rintro e w3 ⟨rfl,hb3⟩;have B3:=Lib.hid (bl_trans BR.out hb3);have HN3:=Lib.hid (HN.out.below B3.out);have h53:=H5.out _ B3.out;obtain ⟨u0,-⟩:=HN3.out.cell 0 _ rfl;obtain ⟨u1,-⟩:=HN3.out.cell 1 _ rfl;obtain ⟨u2,-⟩:=HN3.out.cell 2 _ rfl;obtain ⟨u3,-⟩:=HN3.out.cell 3 _ rfl;obtain ⟨u4,-⟩:=HN3.out.cell 4 _ rfl;obtain ⟨u5,-⟩:=HN3.out.cell 5 _ rfl;obtain ⟨u6,-⟩:=HN3.out.cell 6 _ rfl;obtain ⟨u7,-⟩:=HN3.out.cell 7 _ rfl;obtain ⟨u8,-⟩:=HN3.out.cell 8 _ rfl))
  go_ret
  exact ⟨ret_bool HV.out.symm,bl_trans B.out B3.out⟩
 obtain rfl : ano = decide (1 < n):=HA.out rfl
 by_cases c1 : x < t
 ·have c2 : decide (x < t) = true:=decide_eq_true c1
  have HV : Hid (mustB b i = true):=Lib.hid (by rw [H.out];simp [c1])
  clear H HA
  go_enter Try.func107,Try.ntmps107
  go_wp2_with fail
  refine wp_region_W (last:=8) (k:=8) hmx rfl (fun HC0=>?_)
  refine wpAnyR_takeL (i:=0) (kw:=5) (v:=.pointer (some ⟨w.heap.size,1,none⟩)) (fun _=>bl_refl _) (fun p q=>bl_trans p q) rfl rfl (by kernel_rfl) (by kernel_rfl) (by kernel_rfl) (by kernel_rfl) (fun _ _ _ h=>h) HC0 (Or.inl ⟨by kernel_rfl,fun W' hI=>?_⟩) (fun HC1=>?_)
  ·exact .inl (by go_simp)
  refine wpAnyR_takeL (i:=1) (kw:=4) (v:=.slice (some ⟨b2,o2,none⟩) b.bt.length e2c) (fun _=>bl_refl _) (fun p q=>bl_trans p q) rfl rfl (by kernel_rfl) (by kernel_rfl) (by kernel_rfl) (by kernel_rfl) (fun _ _ _ h=>h) HC1 (Or.inl ⟨by kernel_rfl,fun W' hI=>?_⟩) (fun HC2=>?_)
  ·have hv:=(HN.out).below hI
   obtain ⟨z1,_⟩:=hv.cell 1 _ rfl
   exact .inl (by go_simp)
  refine wpAnyR_takeL (i:=2) (kw:=4) (v:=.int .i64 i) (fun _=>bl_refl _) (fun p q=>bl_trans p q) rfl rfl (by kernel_rfl) (by kernel_rfl) (by kernel_rfl) (by kernel_rfl) (fun _ _ _ h=>h) HC2 (Or.inl ⟨by kernel_rfl,fun W' hI=>?_⟩) (fun HC3=>?_)
  ·exact .inl (by go_simp)
  refine wpAnyR_takeL (i:=3) (kw:=3) (v:=.pointer (some ⟨b2,o2 + i,none⟩)) (fun _=>bl_refl _) (fun p q=>bl_trans p q) rfl rfl (by kernel_rfl) (by kernel_rfl) (by kernel_rfl) (by kernel_rfl) (fun _ _ _ h=>h) HC3 (Or.inl ⟨by kernel_rfl,fun W' hI=>?_⟩) (fun HC4=>?_)
  ·exact .inl (by go_simp)
  refine wpAnyR_takeL (i:=4) (kw:=2) (v:=.int .i64 x) (fun _=>bl_refl _) (fun p q=>bl_trans p q) rfl rfl (by kernel_rfl) (by kernel_rfl) (by kernel_rfl) (by kernel_rfl) (fun _ _ _ h=>h) HC4 (Or.inl ⟨by kernel_rfl,fun W' hI=>?_⟩) (fun HC5=>?_)
  ·have hx:=H2.out W' hI
   exact .inl (by go_simp)
  refine wpAnyR_takeL (i:=5) (kw:=3) (v:=.agg #[.slice A1 b.st.length e1c,.slice (some ⟨b2,o2,none⟩) b.bt.length e2c,.slice A3 b.pd.length e3c,.slice A4 b.fo.length e4c,.slice (some ⟨b5,o5,none⟩) b.ac.length e5c,.int .i64 b.tu,.int .i64 b.un,.int .i64 b.ra,.int .i64 b.li]) (fun _=>bl_refl _) (fun p q=>bl_trans p q) rfl rfl (by kernel_rfl) (by kernel_rfl) (by kernel_rfl) (by kernel_rfl) (fun _ _ _ h=>h) HC5 (Or.inl ⟨by kernel_rfl,fun W' hI=>?_⟩) (fun HC6=>?_)
  ·have hv:=(HN.out).below hI
   obtain ⟨z0,_⟩:=hv.cell 0 _ rfl
   obtain ⟨z1,_⟩:=hv.cell 1 _ rfl
   obtain ⟨z2,_⟩:=hv.cell 2 _ rfl
   obtain ⟨z3,_⟩:=hv.cell 3 _ rfl
   obtain ⟨z4,_⟩:=hv.cell 4 _ rfl
   obtain ⟨z5,_⟩:=hv.cell 5 _ rfl
   obtain ⟨z6,_⟩:=hv.cell 6 _ rfl
   obtain ⟨z7,_⟩:=hv.cell 7 _ rfl
   obtain ⟨z8,_⟩:=hv.cell 8 _ rfl
   exact .inl (by go_simp)
  refine wpAnyR_takeL (i:=6) (kw:=2) (v:=.int .i64 t) (fun _=>bl_refl _) (fun p q=>bl_trans p q) rfl rfl (by kernel_rfl) (by kernel_rfl) (by kernel_rfl) (by kernel_rfl) (fun _ _ _ h=>h) HC6 (Or.inl ⟨by kernel_rfl,fun W' hI=>?_⟩) (fun HC7=>?_)
  ·exact .inr ⟨137,#[.agg #[.slice A1 b.st.length e1c,.slice (some ⟨b2,o2,none⟩) b.bt.length e2c,.slice A3 b.pd.length e3c,.slice A4 b.fo.length e4c,.slice (some ⟨b5,o5,none⟩) b.ac.length e5c,.int .i64 b.tu,.int .i64 b.un,.int .i64 b.ra,.int .i64 b.li]],by go_simp,KM.out W' (HRD.out.below hI).rd⟩
  refine wpAnyR_takeL (i:=7) (kw:=1) (v:=.bool true) (fun _=>bl_refl _) (fun p q=>bl_trans p q) rfl rfl (by kernel_rfl) (by kernel_rfl) (by kernel_rfl) (by kernel_rfl) (fun _ _ _ h=>h) HC7 (Or.inl ⟨by kernel_rfl,fun W' hI=>?_⟩) (fun HC8=>?_)
  ·exact .inl (by go_simp)
  refine wpAnyR_lastL (by kernel_rfl) (by kernel_rfl) rfl (by kernel_rfl) (fun wR hrR=>⟨bl_drewT hrR,?_⟩)
  intro K hK
  have BR:=Lib.hid (bl_drewT hrR)
  clear hrR
  go_simp
  refine hK _ _ ?_
  clear hK K
  have HNR:=Lib.hid (HN.out.below BR.out)
  have h5:=H5.out _ BR.out
  have HNR1:=HNR.out
  obtain ⟨y0,-⟩:=HNR1.cell 0 _ rfl
  obtain ⟨y1,-⟩:=HNR1.cell 1 _ rfl
  obtain ⟨y2,-⟩:=HNR1.cell 2 _ rfl
  obtain ⟨y3,-⟩:=HNR1.cell 3 _ rfl
  obtain ⟨y4,-⟩:=HNR1.cell 4 _ rfl
  obtain ⟨y5,-⟩:=HNR1.cell 5 _ rfl
  obtain ⟨y6,-⟩:=HNR1.cell 6 _ rfl
  obtain ⟨y7,-⟩:=HNR1.cell 7 _ rfl
  obtain ⟨y8,-⟩:=HNR1.cell 8 _ rfl
  clear HNR1
  go_wp2_with (first
    | (go_at_call 158;refine (KC.out _ (HRD.out.below BR.out).rd).mono ?_;rintro e w3 ⟨rfl,hb3⟩;have B3:=Lib.hid (bl_trans BR.out hb3);have HN3:=Lib.hid (HN.out.below B3.out);have h53:=H5.out _ B3.out;obtain ⟨u0,-⟩:=HN3.out.cell 0 _ rfl;obtain ⟨u1,-⟩:=HN3.out.cell 1 _ rfl;obtain ⟨u2,-⟩:=HN3.out.cell 2 _ rfl;obtain ⟨u3,-⟩:=HN3.out.cell 3 _ rfl;obtain ⟨u4,-⟩:=HN3.out.cell 4 _ rfl;obtain ⟨u5,-⟩:=HN3.out.cell 5 _ rfl;obtain ⟨u6,-⟩:=HN3.out.cell 6 _ rfl;obtain ⟨u7,-⟩:=HN3.out.cell 7 _ rfl;obtain ⟨u8,-⟩:=HN3.out.cell 8 _ rfl))
  go_ret
  exact ⟨ret_bool HV.out.symm,bl_trans B.out B3.out⟩
 have c2 : decide (x < t) = false:=decide_eq_false c1
 rcases a with _ | _
 rotate_left
 ·have HV : Hid (mustB b i = false):=Lib.hid (by rw [H.out];simp [c2])
  clear H HA
  go_enter Try.func107,Try.ntmps107
  go_wp2_with fail
  refine wp_region_W (last:=8) (k:=8) hmx rfl (fun HC0=>?_)
  refine wpAnyR_takeL (i:=0) (kw:=5) (v:=.pointer (some ⟨w.heap.size,1,none⟩)) (fun _=>bl_refl _) (fun p q=>bl_trans p q) rfl rfl (by kernel_rfl) (by kernel_rfl) (by kernel_rfl) (by kernel_rfl) (fun _ _ _ h=>h) HC0 (Or.inl ⟨by kernel_rfl,fun W' hI=>?_⟩) (fun HC1=>?_)
  ·exact .inl (by go_simp)
  refine wpAnyR_takeL (i:=1) (kw:=4) (v:=.slice (some ⟨b2,o2,none⟩) b.bt.length e2c) (fun _=>bl_refl _) (fun p q=>bl_trans p q) rfl rfl (by kernel_rfl) (by kernel_rfl) (by kernel_rfl) (by kernel_rfl) (fun _ _ _ h=>h) HC1 (Or.inl ⟨by kernel_rfl,fun W' hI=>?_⟩) (fun HC2=>?_)
  ·have hv:=(HN.out).below hI
   obtain ⟨z1,_⟩:=hv.cell 1 _ rfl
   exact .inl (by go_simp)
  refine wpAnyR_takeL (i:=2) (kw:=4) (v:=.int .i64 i) (fun _=>bl_refl _) (fun p q=>bl_trans p q) rfl rfl (by kernel_rfl) (by kernel_rfl) (by kernel_rfl) (by kernel_rfl) (fun _ _ _ h=>h) HC2 (Or.inl ⟨by kernel_rfl,fun W' hI=>?_⟩) (fun HC3=>?_)
  ·exact .inl (by go_simp)
  refine wpAnyR_takeL (i:=3) (kw:=3) (v:=.pointer (some ⟨b2,o2 + i,none⟩)) (fun _=>bl_refl _) (fun p q=>bl_trans p q) rfl rfl (by kernel_rfl) (by kernel_rfl) (by kernel_rfl) (by kernel_rfl) (fun _ _ _ h=>h) HC3 (Or.inl ⟨by kernel_rfl,fun W' hI=>?_⟩) (fun HC4=>?_)
  ·exact .inl (by go_simp)
  refine wpAnyR_takeL (i:=4) (kw:=2) (v:=.int .i64 x) (fun _=>bl_refl _) (fun p q=>bl_trans p q) rfl rfl (by kernel_rfl) (by kernel_rfl) (by kernel_rfl) (by kernel_rfl) (fun _ _ _ h=>h) HC4 (Or.inl ⟨by kernel_rfl,fun W' hI=>?_⟩) (fun HC5=>?_)
  ·have hx:=H2.out W' hI
   exact .inl (by go_simp)
  refine wpAnyR_takeL (i:=5) (kw:=3) (v:=.agg #[.slice A1 b.st.length e1c,.slice (some ⟨b2,o2,none⟩) b.bt.length e2c,.slice A3 b.pd.length e3c,.slice A4 b.fo.length e4c,.slice (some ⟨b5,o5,none⟩) b.ac.length e5c,.int .i64 b.tu,.int .i64 b.un,.int .i64 b.ra,.int .i64 b.li]) (fun _=>bl_refl _) (fun p q=>bl_trans p q) rfl rfl (by kernel_rfl) (by kernel_rfl) (by kernel_rfl) (by kernel_rfl) (fun _ _ _ h=>h) HC5 (Or.inl ⟨by kernel_rfl,fun W' hI=>?_⟩) (fun HC6=>?_)
  ·have hv:=(HN.out).below hI
   obtain ⟨z0,_⟩:=hv.cell 0 _ rfl
   obtain ⟨z1,_⟩:=hv.cell 1 _ rfl
   obtain ⟨z2,_⟩:=hv.cell 2 _ rfl
   obtain ⟨z3,_⟩:=hv.cell 3 _ rfl
   obtain ⟨z4,_⟩:=hv.cell 4 _ rfl
   obtain ⟨z5,_⟩:=hv.cell 5 _ rfl
   obtain ⟨z6,_⟩:=hv.cell 6 _ rfl
   obtain ⟨z7,_⟩:=hv.cell 7 _ rfl
   obtain ⟨z8,_⟩:=hv.cell 8 _ rfl
   exact .inl (by go_simp)
  refine wpAnyR_takeL (i:=6) (kw:=2) (v:=.int .i64 t) (fun _=>bl_refl _) (fun p q=>bl_trans p q) rfl rfl (by kernel_rfl) (by kernel_rfl) (by kernel_rfl) (by kernel_rfl) (fun _ _ _ h=>h) HC6 (Or.inl ⟨by kernel_rfl,fun W' hI=>?_⟩) (fun HC7=>?_)
  ·exact .inr ⟨137,#[.agg #[.slice A1 b.st.length e1c,.slice (some ⟨b2,o2,none⟩) b.bt.length e2c,.slice A3 b.pd.length e3c,.slice A4 b.fo.length e4c,.slice (some ⟨b5,o5,none⟩) b.ac.length e5c,.int .i64 b.tu,.int .i64 b.un,.int .i64 b.ra,.int .i64 b.li]],by go_simp,KM.out W' (HRD.out.below hI).rd⟩
  refine wpAnyR_takeL (i:=7) (kw:=1) (v:=.bool false) (fun _=>bl_refl _) (fun p q=>bl_trans p q) rfl rfl (by kernel_rfl) (by kernel_rfl) (by kernel_rfl) (by kernel_rfl) (fun _ _ _ h=>h) HC7 (Or.inl ⟨by kernel_rfl,fun W' hI=>?_⟩) (fun HC8=>?_)
  ·exact .inl (by go_simp)
  refine wpAnyR_lastL (by kernel_rfl) (by kernel_rfl) rfl (by kernel_rfl) (fun wR hrR=>⟨bl_drewT hrR,?_⟩)
  intro K hK
  have BR:=Lib.hid (bl_drewT hrR)
  clear hrR
  go_simp
  refine hK _ _ ?_
  clear hK K
  have HNR:=Lib.hid (HN.out.below BR.out)
  have h5:=H5.out _ BR.out
  have HNR1:=HNR.out
  obtain ⟨y0,-⟩:=HNR1.cell 0 _ rfl
  obtain ⟨y1,-⟩:=HNR1.cell 1 _ rfl
  obtain ⟨y2,-⟩:=HNR1.cell 2 _ rfl
  obtain ⟨y3,-⟩:=HNR1.cell 3 _ rfl
  obtain ⟨y4,-⟩:=HNR1.cell 4 _ rfl
  obtain ⟨y5,-⟩:=HNR1.cell 5 _ rfl
  obtain ⟨y6,-⟩:=HNR1.cell 6 _ rfl
  obtain ⟨y7,-⟩:=HNR1.cell 7 _ rfl
  obtain ⟨y8,-⟩:=HNR1.cell 8 _ rfl
  clear HNR1
  go_wp2_with (first
    | (go_at_call 158;refine (KC.out _ (HRD.out.below BR.out).rd).mono ?_;rintro e w3 ⟨rfl,hb3⟩;have B3:=Lib.hid (bl_trans BR.out hb3);have HN3:=Lib.hid (HN.out.below B3.out);have h53:=H5.out _ B3.out;obtain ⟨u0,-⟩:=HN3.out.cell 0 _ rfl;obtain ⟨u1,-⟩:=HN3.out.cell 1 _ rfl;obtain ⟨u2,-⟩:=HN3.out.cell 2 _ rfl;obtain ⟨u3,-⟩:=HN3.out.cell 3 _ rfl;obtain ⟨u4,-⟩:=HN3.out.cell 4 _ rfl;obtain ⟨u5,-⟩:=HN3.out.cell 5 _ rfl;obtain ⟨u6,-⟩:=HN3.out.cell 6 _ rfl;obtain ⟨u7,-⟩:=HN3.out.cell 7 _ rfl;obtain ⟨u8,-⟩:=HN3.out.cell 8 _ rfl))
  go_ret
  exact ⟨ret_bool HV.out.symm,bl_trans B.out B3.out⟩
 obtain ⟨dn,edn⟩ : ∃ dn : Bool,dn = decide (1 < n):=⟨_,rfl⟩
 ·have HV : Hid (mustB b i = decide (1 < n)):=Lib.hid (by rw [H.out];simp [c2])
  clear H HA
  go_enter Try.func107,Try.ntmps107
  go_wp2_with fail
  refine wp_region_W (last:=8) (k:=8) hmx rfl (fun HC0=>?_)
  refine wpAnyR_takeL (i:=0) (kw:=5) (v:=.pointer (some ⟨w.heap.size,1,none⟩)) (fun _=>bl_refl _) (fun p q=>bl_trans p q) rfl rfl (by kernel_rfl) (by kernel_rfl) (by kernel_rfl) (by kernel_rfl) (fun _ _ _ h=>h) HC0 (Or.inl ⟨by kernel_rfl,fun W' hI=>?_⟩) (fun HC1=>?_)
  ·exact .inl (by go_simp)
  refine wpAnyR_takeL (i:=1) (kw:=4) (v:=.slice (some ⟨b2,o2,none⟩) b.bt.length e2c) (fun _=>bl_refl _) (fun p q=>bl_trans p q) rfl rfl (by kernel_rfl) (by kernel_rfl) (by kernel_rfl) (by kernel_rfl) (fun _ _ _ h=>h) HC1 (Or.inl ⟨by kernel_rfl,fun W' hI=>?_⟩) (fun HC2=>?_)
  ·have hv:=(HN.out).below hI
   obtain ⟨z1,_⟩:=hv.cell 1 _ rfl
   exact .inl (by go_simp)
  refine wpAnyR_takeL (i:=2) (kw:=4) (v:=.int .i64 i) (fun _=>bl_refl _) (fun p q=>bl_trans p q) rfl rfl (by kernel_rfl) (by kernel_rfl) (by kernel_rfl) (by kernel_rfl) (fun _ _ _ h=>h) HC2 (Or.inl ⟨by kernel_rfl,fun W' hI=>?_⟩) (fun HC3=>?_)
  ·exact .inl (by go_simp)
  refine wpAnyR_takeL (i:=3) (kw:=3) (v:=.pointer (some ⟨b2,o2 + i,none⟩)) (fun _=>bl_refl _) (fun p q=>bl_trans p q) rfl rfl (by kernel_rfl) (by kernel_rfl) (by kernel_rfl) (by kernel_rfl) (fun _ _ _ h=>h) HC3 (Or.inl ⟨by kernel_rfl,fun W' hI=>?_⟩) (fun HC4=>?_)
  ·exact .inl (by go_simp)
  refine wpAnyR_takeL (i:=4) (kw:=2) (v:=.int .i64 x) (fun _=>bl_refl _) (fun p q=>bl_trans p q) rfl rfl (by kernel_rfl) (by kernel_rfl) (by kernel_rfl) (by kernel_rfl) (fun _ _ _ h=>h) HC4 (Or.inl ⟨by kernel_rfl,fun W' hI=>?_⟩) (fun HC5=>?_)
  ·have hx:=H2.out W' hI
   exact .inl (by go_simp)
  refine wpAnyR_takeL (i:=5) (kw:=3) (v:=.agg #[.slice A1 b.st.length e1c,.slice (some ⟨b2,o2,none⟩) b.bt.length e2c,.slice A3 b.pd.length e3c,.slice A4 b.fo.length e4c,.slice (some ⟨b5,o5,none⟩) b.ac.length e5c,.int .i64 b.tu,.int .i64 b.un,.int .i64 b.ra,.int .i64 b.li]) (fun _=>bl_refl _) (fun p q=>bl_trans p q) rfl rfl (by kernel_rfl) (by kernel_rfl) (by kernel_rfl) (by kernel_rfl) (fun _ _ _ h=>h) HC5 (Or.inl ⟨by kernel_rfl,fun W' hI=>?_⟩) (fun HC6=>?_)
  ·have hv:=(HN.out).below hI
   obtain ⟨z0,_⟩:=hv.cell 0 _ rfl
   obtain ⟨z1,_⟩:=hv.cell 1 _ rfl
   obtain ⟨z2,_⟩:=hv.cell 2 _ rfl
   obtain ⟨z3,_⟩:=hv.cell 3 _ rfl
   obtain ⟨z4,_⟩:=hv.cell 4 _ rfl
   obtain ⟨z5,_⟩:=hv.cell 5 _ rfl
   obtain ⟨z6,_⟩:=hv.cell 6 _ rfl
   obtain ⟨z7,_⟩:=hv.cell 7 _ rfl
   obtain ⟨z8,_⟩:=hv.cell 8 _ rfl
   exact .inl (by go_simp)
  refine wpAnyR_takeL (i:=6) (kw:=2) (v:=.int .i64 t) (fun _=>bl_refl _) (fun p q=>bl_trans p q) rfl rfl (by kernel_rfl) (by kernel_rfl) (by kernel_rfl) (by kernel_rfl) (fun _ _ _ h=>h) HC6 (Or.inl ⟨by kernel_rfl,fun W' hI=>?_⟩) (fun HC7=>?_)
  ·exact .inr ⟨137,#[.agg #[.slice A1 b.st.length e1c,.slice (some ⟨b2,o2,none⟩) b.bt.length e2c,.slice A3 b.pd.length e3c,.slice A4 b.fo.length e4c,.slice (some ⟨b5,o5,none⟩) b.ac.length e5c,.int .i64 b.tu,.int .i64 b.un,.int .i64 b.ra,.int .i64 b.li]],by go_simp,KM.out W' (HRD.out.below hI).rd⟩
  refine wpAnyR_takeL (i:=7) (kw:=1) (v:=.bool false) (fun _=>bl_refl _) (fun p q=>bl_trans p q) rfl rfl (by kernel_rfl) (by kernel_rfl) (by kernel_rfl) (by kernel_rfl) (fun _ _ _ h=>h) HC7 (Or.inl ⟨by kernel_rfl,fun W' hI=>?_⟩) (fun HC8=>?_)
  ·exact .inl (by go_simp)
  refine wpAnyR_lastL (by kernel_rfl) (by kernel_rfl) rfl (by kernel_rfl) (fun wR hrR=>⟨bl_drewT hrR,?_⟩)
  intro K hK
  have BR:=Lib.hid (bl_drewT hrR)
  clear hrR
  go_simp
  refine hK _ _ ?_
  clear hK K
  have HNR:=Lib.hid (HN.out.below BR.out)
  have h5:=H5.out _ BR.out
  have HNR1:=HNR.out
  obtain ⟨y0,-⟩:=HNR1.cell 0 _ rfl
  obtain ⟨y1,-⟩:=HNR1.cell 1 _ rfl
  obtain ⟨y2,-⟩:=HNR1.cell 2 _ rfl
  obtain ⟨y3,-⟩:=HNR1.cell 3 _ rfl
  obtain ⟨y4,-⟩:=HNR1.cell 4 _ rfl
  obtain ⟨y5,-⟩:=HNR1.cell 5 _ rfl
  obtain ⟨y6,-⟩:=HNR1.cell 6 _ rfl
  obtain ⟨y7,-⟩:=HNR1.cell 7 _ rfl
  obtain ⟨y8,-⟩:=HNR1.cell 8 _ rfl
  clear HNR1
  go_wp2_with (first
    | (go_at_call 158;refine (KC.out _ (HRD.out.below BR.out).rd).mono ?_;rintro e w3 ⟨rfl,hb3⟩;have B3:=Lib.hid (bl_trans BR.out hb3);have HN3:=Lib.hid (HN.out.below B3.out);have h53:=H5.out _ B3.out;obtain ⟨u0,-⟩:=HN3.out.cell 0 _ rfl;obtain ⟨u1,-⟩:=HN3.out.cell 1 _ rfl;obtain ⟨u2,-⟩:=HN3.out.cell 2 _ rfl;obtain ⟨u3,-⟩:=HN3.out.cell 3 _ rfl;obtain ⟨u4,-⟩:=HN3.out.cell 4 _ rfl;obtain ⟨u5,-⟩:=HN3.out.cell 5 _ rfl;obtain ⟨u6,-⟩:=HN3.out.cell 6 _ rfl;obtain ⟨u7,-⟩:=HN3.out.cell 7 _ rfl;obtain ⟨u8,-⟩:=HN3.out.cell 8 _ rfl)
    | (go_at_call 111;refine (KN.out _ (HRD.out.below B3.out).rd).mono ?_;rintro e w4 ⟨rfl,hb4⟩;have B4:=Lib.hid (bl_trans B3.out hb4)))
  go_ret
  exact ⟨ret_bool HV.out.symm,bl_trans B.out B4.out⟩
theorem l10HasT_any (L : At5) (b : Bt) (w : World) (h : Rd5 w L b) (k : Ok b) :
  Calls Try.prog 107 #[bV L b,.int .i64 b.tu] w (Fresh (.bool (openB b)) w):=by
 obtain ⟨i,hi⟩:=Int.eq_ofNat_of_zero_le k.t0
 have q:=l10Has_any L b i w h k.sd (by have:=k.t1;omega)
 rw [show openB b = mustB b i by unfold openB;rw [hi];rfl,hi]
 exact q
set_option maxRecDepth 100000 in
set_option maxHeartbeats 400000 in
theorem l10Code_any (L : At5) (b : Bt) (w : World) (h : Rd5 w L b) (z : Sz b) :
  Calls Try.prog 69 #[bV L b] w (Fresh (.int .i64 (codeB b)) w):=by
 have KV:=Lib.hid (fun (W : World) (hb : Below w.heap.size w W)=>specIsBetting_any L b W (h.below hb) z)
 have KH:=Lib.hid (fun (k : Ok b) (W : World) (hW : Rd5 W L b)=>l10HasT_any L b W hW k)
 have BT:=btAt_new h
 have B:=Lib.hid (bl_box (w:=w) (L:=L) (b:=b))
 have BN:=Lib.hid BT
 obtain ⟨q0,_⟩:=BT.blk.cell 0 _ rfl
 obtain ⟨q1,_⟩:=BT.blk.cell 1 _ rfl
 obtain ⟨q2,_⟩:=BT.blk.cell 2 _ rfl
 obtain ⟨q3,_⟩:=BT.blk.cell 3 _ rfl
 obtain ⟨q4,_⟩:=BT.blk.cell 4 _ rfl
 obtain ⟨q5,_⟩:=BT.blk.cell 5 _ rfl
 obtain ⟨q6,_⟩:=BT.blk.cell 6 _ rfl
 obtain ⟨q7,_⟩:=BT.blk.cell 7 _ rfl
 obtain ⟨q8,_⟩:=BT.blk.cell 8 _ rfl
 clear h BT z
 rcases hv : okB b with _ | _
 ·rw [codeB_no hv]
  rw [hv] at KV
  clear KH hv
  unfold bV at *
  go_enter Try.func69,Try.ntmps69
  go_wp2_with (first
    | (go_at_call 18;refine (KV.out _ B.out).mono ?_;rintro e w2 ⟨rfl,hb⟩;have BNa:=Lib.hid (BN.out.below hb);have Ba:=Lib.hid (bl_trans B.out hb);obtain ⟨u0,-⟩:=BNa.out.blk.cell 0 _ rfl;obtain ⟨u1,-⟩:=BNa.out.blk.cell 1 _ rfl;obtain ⟨u2,-⟩:=BNa.out.blk.cell 2 _ rfl;obtain ⟨u3,-⟩:=BNa.out.blk.cell 3 _ rfl;obtain ⟨u4,-⟩:=BNa.out.blk.cell 4 _ rfl;obtain ⟨u5,-⟩:=BNa.out.blk.cell 5 _ rfl;obtain ⟨u6,-⟩:=BNa.out.blk.cell 6 _ rfl;obtain ⟨u7,-⟩:=BNa.out.blk.cell 7 _ rfl;obtain ⟨u8,-⟩:=BNa.out.blk.cell 8 _ rfl))
  go_ret
  exact ⟨rfl,Ba.out⟩
 ·have e1 : codeB b = if openB b = true then 0 else 5:=by unfold codeB;rw [hv];rfl
  have KK:=Lib.hid (KH.out (ok_of hv))
  rw [hv] at KV
  rw [e1]
  clear KH hv e1
  unfold bV at *
  generalize openB b = r at *
  rcases r with _ | _
  all_goals
   go_enter Try.func69,Try.ntmps69
   go_wp2_with (first
     | (go_at_call 18;refine (KV.out _ B.out).mono ?_;rintro e w2 ⟨rfl,hb⟩;have BNa:=Lib.hid (BN.out.below hb);have Ba:=Lib.hid (bl_trans B.out hb);obtain ⟨u0,-⟩:=BNa.out.blk.cell 0 _ rfl;obtain ⟨u1,-⟩:=BNa.out.blk.cell 1 _ rfl;obtain ⟨u2,-⟩:=BNa.out.blk.cell 2 _ rfl;obtain ⟨u3,-⟩:=BNa.out.blk.cell 3 _ rfl;obtain ⟨u4,-⟩:=BNa.out.blk.cell 4 _ rfl;obtain ⟨u5,-⟩:=BNa.out.blk.cell 5 _ rfl;obtain ⟨u6,-⟩:=BNa.out.blk.cell 6 _ rfl;obtain ⟨u7,-⟩:=BNa.out.blk.cell 7 _ rfl;obtain ⟨u8,-⟩:=BNa.out.blk.cell 8 _ rfl)
     | (go_at_call 107;refine (KK.out _ BNa.out.rd).mono ?_;rintro e w3 ⟨rfl,hb3⟩;have Bb:=Lib.hid (bl_trans Ba.out hb3)))
   go_ret
   exact ⟨rfl,Bb.out⟩
set_option maxRecDepth 100000 in
set_option maxHeartbeats 400000 in
theorem specIsOpen_any (L : At5) (b : Bt) (w : World) (h : Rd5 w L b) (z : Sz b) :
  Calls Try.prog 71 #[bV L b] w (Fresh (.bool (okB b && openB b)) w):=by
 have KV:=Lib.hid (fun (W : World) (hb : Below w.heap.size w W)=>specIsBetting_any L b W (h.below hb) z)
 have KH:=Lib.hid (fun (k : Ok b) (W : World) (hW : Rd5 W L b)=>l10HasT_any L b W hW k)
 have BT:=btAt_new h
 have B:=Lib.hid (bl_box (w:=w) (L:=L) (b:=b))
 have BN:=Lib.hid BT
 obtain ⟨q0,_⟩:=BT.blk.cell 0 _ rfl
 obtain ⟨q1,_⟩:=BT.blk.cell 1 _ rfl
 obtain ⟨q2,_⟩:=BT.blk.cell 2 _ rfl
 obtain ⟨q3,_⟩:=BT.blk.cell 3 _ rfl
 obtain ⟨q4,_⟩:=BT.blk.cell 4 _ rfl
 obtain ⟨q5,_⟩:=BT.blk.cell 5 _ rfl
 obtain ⟨q6,_⟩:=BT.blk.cell 6 _ rfl
 obtain ⟨q7,_⟩:=BT.blk.cell 7 _ rfl
 obtain ⟨q8,_⟩:=BT.blk.cell 8 _ rfl
 clear h BT z
 rcases hv : okB b with _ | _
 ·rw [hv] at KV
  clear KH hv
  unfold bV at *
  go_enter Try.func71,Try.ntmps71
  go_wp2_with (first
    | (go_at_call 18;refine (KV.out _ B.out).mono ?_;rintro e w2 ⟨rfl,hb⟩;have BNa:=Lib.hid (BN.out.below hb);have Ba:=Lib.hid (bl_trans B.out hb);obtain ⟨u0,-⟩:=BNa.out.blk.cell 0 _ rfl;obtain ⟨u1,-⟩:=BNa.out.blk.cell 1 _ rfl;obtain ⟨u2,-⟩:=BNa.out.blk.cell 2 _ rfl;obtain ⟨u3,-⟩:=BNa.out.blk.cell 3 _ rfl;obtain ⟨u4,-⟩:=BNa.out.blk.cell 4 _ rfl;obtain ⟨u5,-⟩:=BNa.out.blk.cell 5 _ rfl;obtain ⟨u6,-⟩:=BNa.out.blk.cell 6 _ rfl;obtain ⟨u7,-⟩:=BNa.out.blk.cell 7 _ rfl;obtain ⟨u8,-⟩:=BNa.out.blk.cell 8 _ rfl))
  go_ret
  exact ⟨rfl,Ba.out⟩
 ·skip
  have KK:=Lib.hid (KH.out (ok_of hv))
  rw [hv] at KV
  clear KH hv
  unfold bV at *
  generalize openB b = r at *
  go_enter Try.func71,Try.ntmps71
  go_wp2_with (first
    | (go_at_call 18;refine (KV.out _ B.out).mono ?_;rintro e w2 ⟨rfl,hb⟩;have BNa:=Lib.hid (BN.out.below hb);have Ba:=Lib.hid (bl_trans B.out hb);obtain ⟨u0,-⟩:=BNa.out.blk.cell 0 _ rfl;obtain ⟨u1,-⟩:=BNa.out.blk.cell 1 _ rfl;obtain ⟨u2,-⟩:=BNa.out.blk.cell 2 _ rfl;obtain ⟨u3,-⟩:=BNa.out.blk.cell 3 _ rfl;obtain ⟨u4,-⟩:=BNa.out.blk.cell 4 _ rfl;obtain ⟨u5,-⟩:=BNa.out.blk.cell 5 _ rfl;obtain ⟨u6,-⟩:=BNa.out.blk.cell 6 _ rfl;obtain ⟨u7,-⟩:=BNa.out.blk.cell 7 _ rfl;obtain ⟨u8,-⟩:=BNa.out.blk.cell 8 _ rfl)
    | (go_at_call 107;refine (KK.out _ BNa.out.rd).mono ?_;rintro e w3 ⟨rfl,hb3⟩;have Bb:=Lib.hid (bl_trans Ba.out hb3)))
  go_ret
  exact ⟨ret_bool (by simp),Bb.out⟩
set_option maxRecDepth 100000 in
set_option maxHeartbeats 400000 in
theorem specPotIn_any (L : At5) (b : Bt) (w : World) (h : Rd5 w L b) (z : Sz b) :
  Calls Try.prog 29 #[bV L b] w (Fresh (pairV (potIR b) (okC b)) w):=by
 have KV:=Lib.hid (fun (W : World) (hb : Below w.heap.size w W)=>specIsBetting_any L b W (h.below hb) z)
 have KP:=Lib.hid (fun (k : Ok b) (W : World) (hW : Rd5 W L b)=>l10Pot_any L b W hW (by have:=k.n6;have:=k.l2;omega) (by have:=k.n6;have:=k.l3;omega) k.s2 k.s3)
 have KS:=Lib.hid (fun (k : Ok b) (W : World) (hW : Rd5 W L b)=>l01SumC_any L.a1 L.c1 b.st W hW.r1 (by have:=k.n6;omega) k.s1)
 have BT:=btAt_new h
 have B:=Lib.hid (bl_box (w:=w) (L:=L) (b:=b))
 have BN:=Lib.hid BT
 have hmx : Try.prog.follows .mixedOrders = true:=by kernel_rfl
 obtain ⟨q0,_⟩:=BT.blk.cell 0 _ rfl
 obtain ⟨q1,_⟩:=BT.blk.cell 1 _ rfl
 obtain ⟨q2,_⟩:=BT.blk.cell 2 _ rfl
 obtain ⟨q3,_⟩:=BT.blk.cell 3 _ rfl
 obtain ⟨q4,_⟩:=BT.blk.cell 4 _ rfl
 obtain ⟨q5,_⟩:=BT.blk.cell 5 _ rfl
 obtain ⟨q6,_⟩:=BT.blk.cell 6 _ rfl
 obtain ⟨q7,_⟩:=BT.blk.cell 7 _ rfl
 obtain ⟨q8,_⟩:=BT.blk.cell 8 _ rfl
 clear h BT z
 rcases hv : okB b with _ | _
 ·have e1 : potIR b = 0:=by unfold potIR;rw [hv];rfl
  have e2 : okC b = 1:=by unfold okC;rw [hv];rfl
  rw [hv] at KV
  rw [e1,e2]
  clear KP KS hv e1 e2
  unfold bV at *
  go_enter Try.func29,Try.ntmps29
  go_wp2_with (first
    | (go_at_call 18;refine (KV.out _ B.out).mono ?_;rintro e w2 ⟨rfl,hb⟩;have BNa:=Lib.hid (BN.out.below hb);have Ba:=Lib.hid (bl_trans B.out hb);obtain ⟨u0,-⟩:=BNa.out.blk.cell 0 _ rfl;obtain ⟨u1,-⟩:=BNa.out.blk.cell 1 _ rfl;obtain ⟨u2,-⟩:=BNa.out.blk.cell 2 _ rfl;obtain ⟨u3,-⟩:=BNa.out.blk.cell 3 _ rfl;obtain ⟨u4,-⟩:=BNa.out.blk.cell 4 _ rfl;obtain ⟨u5,-⟩:=BNa.out.blk.cell 5 _ rfl;obtain ⟨u6,-⟩:=BNa.out.blk.cell 6 _ rfl;obtain ⟨u7,-⟩:=BNa.out.blk.cell 7 _ rfl;obtain ⟨u8,-⟩:=BNa.out.blk.cell 8 _ rfl))
  go_ret2
  exact ⟨rfl,Ba.out⟩
 ·skip
  have e1 : potIR b = potI b:=by unfold potIR;rw [hv];rfl
  have e2 : okC b = 0:=by unfold okC;rw [hv];rfl
  have KK:=Lib.hid (KP.out (ok_of hv))
  rw [hv] at KV
  rw [e1,e2]
  clear KP KS hv e1 e2
  unfold bV at *
  generalize potI b = r at *
  go_enter Try.func29,Try.ntmps29
  go_wp2_with (first
    | (go_at_call 18;refine (KV.out _ B.out).mono ?_;rintro e w2 ⟨rfl,hb⟩;have BNa:=Lib.hid (BN.out.below hb);have Ba:=Lib.hid (bl_trans B.out hb);obtain ⟨u0,-⟩:=BNa.out.blk.cell 0 _ rfl;obtain ⟨u1,-⟩:=BNa.out.blk.cell 1 _ rfl;obtain ⟨u2,-⟩:=BNa.out.blk.cell 2 _ rfl;obtain ⟨u3,-⟩:=BNa.out.blk.cell 3 _ rfl;obtain ⟨u4,-⟩:=BNa.out.blk.cell 4 _ rfl;obtain ⟨u5,-⟩:=BNa.out.blk.cell 5 _ rfl;obtain ⟨u6,-⟩:=BNa.out.blk.cell 6 _ rfl;obtain ⟨u7,-⟩:=BNa.out.blk.cell 7 _ rfl;obtain ⟨u8,-⟩:=BNa.out.blk.cell 8 _ rfl)
    | (go_at_call 81;refine (KK.out _ BNa.out.rd).mono ?_;rintro e w3 ⟨rfl,hb3⟩;have Bb:=Lib.hid (bl_trans Ba.out hb3)))
  go_ret2
  exact ⟨rfl,Bb.out⟩
set_option maxRecDepth 100000 in
set_option maxHeartbeats 400000 in
theorem specChipsIn_any (L : At5) (b : Bt) (w : World) (h : Rd5 w L b) (z : Sz b) :
  Calls Try.prog 28 #[bV L b] w (Fresh (pairV (allIR b) (okC b)) w):=by
 have KV:=Lib.hid (fun (W : World) (hb : Below w.heap.size w W)=>specIsBetting_any L b W (h.below hb) z)
 have KP:=Lib.hid (fun (k : Ok b) (W : World) (hW : Rd5 W L b)=>l10Pot_any L b W hW (by have:=k.n6;have:=k.l2;omega) (by have:=k.n6;have:=k.l3;omega) k.s2 k.s3)
 have KS:=Lib.hid (fun (k : Ok b) (W : World) (hW : Rd5 W L b)=>l01SumC_any L.a1 L.c1 b.st W hW.r1 (by have:=k.n6;omega) k.s1)
 have BT:=btAt_new h
 have B:=Lib.hid (bl_box (w:=w) (L:=L) (b:=b))
 have BN:=Lib.hid BT
 have hmx : Try.prog.follows .mixedOrders = true:=by kernel_rfl
 obtain ⟨q0,_⟩:=BT.blk.cell 0 _ rfl
 obtain ⟨q1,_⟩:=BT.blk.cell 1 _ rfl
 obtain ⟨q2,_⟩:=BT.blk.cell 2 _ rfl
 obtain ⟨q3,_⟩:=BT.blk.cell 3 _ rfl
 obtain ⟨q4,_⟩:=BT.blk.cell 4 _ rfl
 obtain ⟨q5,_⟩:=BT.blk.cell 5 _ rfl
 obtain ⟨q6,_⟩:=BT.blk.cell 6 _ rfl
 obtain ⟨q7,_⟩:=BT.blk.cell 7 _ rfl
 obtain ⟨q8,_⟩:=BT.blk.cell 8 _ rfl
 clear h BT z
 rcases hv : okB b with _ | _
 ·have e1 : allIR b = 0:=by unfold allIR;rw [hv];rfl
  have e2 : okC b = 1:=by unfold okC;rw [hv];rfl
  rw [hv] at KV
  rw [e1,e2]
  clear KP KS hv e1 e2
  unfold bV at *
  go_enter Try.func28,Try.ntmps28
  go_wp2_with (first
    | (go_at_call 18;refine (KV.out _ B.out).mono ?_;rintro e w2 ⟨rfl,hb⟩;have BNa:=Lib.hid (BN.out.below hb);have Ba:=Lib.hid (bl_trans B.out hb);obtain ⟨u0,-⟩:=BNa.out.blk.cell 0 _ rfl;obtain ⟨u1,-⟩:=BNa.out.blk.cell 1 _ rfl;obtain ⟨u2,-⟩:=BNa.out.blk.cell 2 _ rfl;obtain ⟨u3,-⟩:=BNa.out.blk.cell 3 _ rfl;obtain ⟨u4,-⟩:=BNa.out.blk.cell 4 _ rfl;obtain ⟨u5,-⟩:=BNa.out.blk.cell 5 _ rfl;obtain ⟨u6,-⟩:=BNa.out.blk.cell 6 _ rfl;obtain ⟨u7,-⟩:=BNa.out.blk.cell 7 _ rfl;obtain ⟨u8,-⟩:=BNa.out.blk.cell 8 _ rfl))
  go_ret2
  exact ⟨rfl,Ba.out⟩
 ·skip
  have e1 : allIR b = allI b:=by unfold allIR;rw [hv];rfl
  have e2 : okC b = 0:=by unfold okC;rw [hv];rfl
  have k:=ok_of hv
  have KK:=Lib.hid (KP.out k)
  have KT:=Lib.hid (KS.out k)
  have e3 : allI b = potI b + sumT b.st b.st.length:=by unfold allI;omega
  have u1:=sumT_bdC b.st k.s1 _ (Nat.le_refl _)
  have u2 : 0 ≤ potI b ∧ potI b ≤ 10000000:=by
   have:=sumT_bdC b.bt k.s2 _ (Nat.le_refl _)
   have:=sumT_bdC b.pd k.s3 _ (Nat.le_refl _)
   have:=k.n6
   have:=k.l2
   have:=k.l3
   unfold potI;omega
  have n6:=k.n6
  rw [hv] at KV
  rw [e1,e2,e3]
  clear KP KS hv e1 e2 e3 k
  unfold bV at *
  generalize potI b = p at *
  generalize sumT b.st b.st.length = x1 at *
  go_enter Try.func28,Try.ntmps28
  go_wp2_with (go_at_call 18;refine (KV.out _ B.out).mono ?_;rintro e w2 ⟨rfl,hb⟩;have BNa:=Lib.hid (BN.out.below hb);have Ba:=Lib.hid (bl_trans B.out hb);obtain ⟨u0,-⟩:=BNa.out.blk.cell 0 _ rfl;obtain ⟨u1,-⟩:=BNa.out.blk.cell 1 _ rfl;obtain ⟨u2,-⟩:=BNa.out.blk.cell 2 _ rfl;obtain ⟨u3,-⟩:=BNa.out.blk.cell 3 _ rfl;obtain ⟨u4,-⟩:=BNa.out.blk.cell 4 _ rfl;obtain ⟨u5,-⟩:=BNa.out.blk.cell 5 _ rfl;obtain ⟨u6,-⟩:=BNa.out.blk.cell 6 _ rfl;obtain ⟨u7,-⟩:=BNa.out.blk.cell 7 _ rfl;obtain ⟨u8,-⟩:=BNa.out.blk.cell 8 _ rfl)
  refine wp_region_W (last:=7) (k:=7) hmx rfl (fun HC0=>?_)
  refine wpAnyR_takeL (i:=0) (kw:=8) (v:=.agg #[.slice L.a1 b.st.length L.c1,.slice L.a2 b.bt.length L.c2,.slice L.a3 b.pd.length L.c3,.slice L.a4 b.fo.length L.c4,.slice L.a5 b.ac.length L.c5,.int .i64 b.tu,.int .i64 b.un,.int .i64 b.ra,.int .i64 b.li]) (fun _=>bl_refl _) (fun p q=>bl_trans p q) rfl rfl (by kernel_rfl) (by kernel_rfl) (by kernel_rfl) (by kernel_rfl) (fun _ _ _ h=>h) HC0 (Or.inl ⟨by kernel_rfl,fun W' hI=>?_⟩) (fun HC1=>?_)
  ·have hv:=(BNa.out.blk).below hI
   obtain ⟨z0,_⟩:=hv.cell 0 _ rfl
   obtain ⟨z1,_⟩:=hv.cell 1 _ rfl
   obtain ⟨z2,_⟩:=hv.cell 2 _ rfl
   obtain ⟨z3,_⟩:=hv.cell 3 _ rfl
   obtain ⟨z4,_⟩:=hv.cell 4 _ rfl
   obtain ⟨z5,_⟩:=hv.cell 5 _ rfl
   obtain ⟨z6,_⟩:=hv.cell 6 _ rfl
   obtain ⟨z7,_⟩:=hv.cell 7 _ rfl
   obtain ⟨z8,_⟩:=hv.cell 8 _ rfl
   exact .inl (by go_simp)
  refine wpAnyR_takeL (i:=1) (kw:=8) (v:=.int .i64 p) (fun _=>bl_refl _) (fun p q=>bl_trans p q) rfl rfl (by kernel_rfl) (by kernel_rfl) (by kernel_rfl) (by kernel_rfl) (fun _ _ _ h=>h) HC1 (Or.inl ⟨by kernel_rfl,fun W' hI=>?_⟩) (fun HC2=>?_)
  ·exact .inr ⟨81,#[.agg #[.slice L.a1 b.st.length L.c1,.slice L.a2 b.bt.length L.c2,.slice L.a3 b.pd.length L.c3,.slice L.a4 b.fo.length L.c4,.slice L.a5 b.ac.length L.c5,.int .i64 b.tu,.int .i64 b.un,.int .i64 b.ra,.int .i64 b.li]],by go_simp,KK.out W' (BNa.out.below hI).rd⟩
  refine wpAnyR_takeL (i:=2) (kw:=8) (v:=.pointer (some ⟨w.heap.size,0,none⟩)) (fun _=>bl_refl _) (fun p q=>bl_trans p q) rfl rfl (by kernel_rfl) (by kernel_rfl) (by kernel_rfl) (by kernel_rfl) (fun _ _ _ h=>h) HC2 (Or.inl ⟨by kernel_rfl,fun W' hI=>?_⟩) (fun HC3=>?_)
  ·exact .inl (by go_simp)
  refine wpAnyR_takeL (i:=3) (kw:=8) (v:=.slice L.a1 b.st.length L.c1) (fun _=>bl_refl _) (fun p q=>bl_trans p q) rfl rfl (by kernel_rfl) (by kernel_rfl) (by kernel_rfl) (by kernel_rfl) (fun _ _ _ h=>h) HC3 (Or.inl ⟨by kernel_rfl,fun W' hI=>?_⟩) (fun HC4=>?_)
  ·have hv:=(BNa.out.blk).below hI
   obtain ⟨z0,_⟩:=hv.cell 0 _ rfl
   exact .inl (by go_simp)
  refine wpAnyR_takeL (i:=4) (kw:=8) (v:=.int .i64 x1) (fun _=>bl_refl _) (fun p q=>bl_trans p q) rfl rfl (by kernel_rfl) (by kernel_rfl) (by kernel_rfl) (by kernel_rfl) (fun _ _ _ h=>h) HC4 (Or.inl ⟨by kernel_rfl,fun W' hI=>?_⟩) (fun HC5=>?_)
  ·exact .inr ⟨82,#[.slice L.a1 b.st.length L.c1],by go_simp,(KT.out W' (BNa.out.below hI).rd).mono fun e w' h=>⟨h.1,by rw [← h.2];exact bl_refl _⟩⟩
  refine wpAnyR_takeL (i:=5) (kw:=8) (v:=.int .i64 (p + x1)) (fun _=>bl_refl _) (fun p q=>bl_trans p q) rfl rfl (by kernel_rfl) (by kernel_rfl) (by kernel_rfl) (by kernel_rfl) (fun _ _ _ h=>h) HC5 (Or.inl ⟨by kernel_rfl,fun W' hI=>?_⟩) (fun HC6=>?_)
  ·exact .inl (by go_simp;first | done | exact IntWalk.i64_in _ (by omega))
  refine wpAnyR_takeL (i:=6) (kw:=8) (v:=.int .i64 (p + x1)) (fun _=>bl_refl _) (fun p q=>bl_trans p q) rfl rfl (by kernel_rfl) (by kernel_rfl) (by kernel_rfl) (by kernel_rfl) (fun _ _ _ h=>h) HC6 (Or.inl ⟨by kernel_rfl,fun W' hI=>?_⟩) (fun HC7=>?_)
  ·exact .inl (by go_simp)
  refine wpAnyR_lastL (by kernel_rfl) (by kernel_rfl) rfl (by kernel_rfl) (fun wR hrR=>⟨bl_drewT hrR,?_⟩)
  intro K hK
  have BR:=Lib.hid (bl_drewT hrR)
  clear hrR
  go_simp
  refine hK _ _ ?_
  clear hK K
  go_wp2_with fail
  go_ret2
  exact ⟨rfl,bl_trans Ba.out BR.out⟩
set_option maxRecDepth 100000 in
set_option maxHeartbeats 400000 in
theorem l10Live_any (L : At5) (b : Bt) (w : World) (h : Rd5 w L b) (n6 : b.fo.length ≤ 6) :
  Calls Try.prog 95 #[bV L b] w (NewL (liveL b b.fo.length) w):=by
 obtain ⟨i0,hi,hz0,hz1,hz2⟩:=info_parts infoInt
 have BT:=btAt_new h
 have h0R:=Lib.hid h
 obtain ⟨w0,rfl⟩ : ∃ w0 : World,w0 = w:=⟨w,rfl⟩
 have D1 : Hid (Grow w0 [] (.slice (some ⟨(w0.alloc (.cells (btL L b).toArray 27)).heap.size,0,none⟩) 0 0) ((w0.alloc (.cells (btL L b).toArray 27)).alloc (.cells #[] 2))):=Lib.hid ⟨Own.less (show Own ((w0.alloc (.cells (btL L b).toArray 27)).alloc (.cells #[] 2)) (w0.alloc (.cells (btL L b).toArray 27)).heap.size (.slice (some ⟨(w0.alloc (.cells (btL L b).toArray 27)).heap.size,0,none⟩) 0 0) [] from World.ownsRow_made (w0.alloc (.cells (btL L b).toArray 27)) #[] 0 (Nat.le_refl _) (by unfold maxLen;omega) rfl) (by rw [World.size_alloc];omega),bl_alloc bl_box _⟩
 have HT:=Lib.hid (BT.below (bl_alloc (bl_refl _) (.cells #[] 2)))
 rw [World.size_alloc] at D1
 clear h BT
 unfold bV
 go_enter Try.func95,Try.ntmps95
 go_wp2_with fail
 go_loopw [3,4] (fun v i wr=>∃ k : Nat,k ≤ b.fo.length ∧ i = .int .i64 k ∧ Hid (Grow w0 (liveL b k) v wr) ∧ Hid (BtAt wr w0.heap.size L b)) (fun _ i _=>b.fo.length - (intOf i).toNat)
 case atStart=>exact ⟨0,Nat.zero_le _,rfl,D1,HT⟩
 case round =>
  obtain ⟨k,hk,rfl,HS,HB⟩:=hrel
  clear D1 HT
  have HB1:=HB.out
  obtain ⟨q3,_⟩:=HB1.blk.cell 3 _ rfl
  by_cases hlt : k < b.fo.length
  ·have hlt' : (k : Int) < b.fo.length:=by omega
   obtain ⟨b4,o4,e4,hc4⟩:=HB1.rd.r4.at_0 k hlt
   rw [e4] at q3
   clear HB1 e4
   have hl : (liveL b k).length ≤ 6:=Nat.le_trans (liveL_len b k) (by omega)
   have HT : Hid (liveL b (k + 1) = if nthB b.fo k = true then liveL b k else liveL b k ++ [(k : Int)]):=Lib.hid rfl
   generalize nthB b.fo k = x at *
   generalize liveL b k = rr at *
   rcases x with _ | _
   ·rw [if_neg (by simp)] at HT
    have hne:=own_ne_blkQ HS.out.1 HB.out.blk (by decide)
    go_wp2_with (at_builtin;refine wpList_append_own _ rfl _ _ 24 rfl w0.heap.size 2 i0 (.int .i64 0) 1 8 Try.underlying24 hi hz0 hz1 hz2 rfl (by decide) _ _ _ rfl (HS.out.1.alloc _) ⟨wr.heap.size,0,none⟩ 1 1 [.int .i64 k] rfl rfl ?c1 ?c2 ?c3 ?c4 ?c5 ?_)
    case c1 =>
     intro j u hj
     match j,hj with
     | 0,hj=>simp at hj;subst hj;simp [Addr.add]
    case c2=>intro u hu;simp at hu;subst hu;rfl
    case c3=>unfold maxLen;omega
    case c4=>omega
    case c5=>have:=HS.out.2.size;simp;omega
    intro v' w1 hown' hgrow _
    have HG:=Lib.hid (grow_app HS.out hown' hgrow)
    have HBa:=HB.out.below (bl_alloc (bl_refl wr) (.cells #[.int .i64 k] 2))
    have HBb : Hid (BtAt w1 w0.heap.size L b):=Lib.hid ⟨HBa.blk.grown hgrow hne,HG.out.2 |> fun hb=>(h0R.out.below hb)⟩
    clear hown' hgrow
    go_wp2_with fail
    go_roundw
    case rel=>exact ⟨k + 1,by omega,by go_num,by rw [HT.out];exact HG,HBb⟩
    case measure=>simp [intOf];omega
   ·rw [if_pos rfl] at HT
    go_wp2_with fail
    go_roundw
    case rel=>exact ⟨k + 1,by omega,by go_num,by rw [HT.out];exact HS,HB⟩
    case measure=>simp [intOf];omega
  ·obtain rfl : k = b.fo.length:=by omega
   obtain ⟨A',c',rfl,hO⟩:=own_form HS.out.1
   have HO:=Lib.hid hO
   clear hO
   go_wp2_with fail
   go_ret
   exact ⟨A',c',rfl,HO.out,HS.out.2⟩
set_option maxRecDepth 100000 in
set_option maxHeartbeats 400000 in
theorem specLiveSeats_any (L : At5) (b : Bt) (w : World) (h : Rd5 w L b) (z : Sz b) :
  Calls Try.prog 31 #[bV L b] w (NewRC (liveR b) (okC b) w):=by
 have KV:=Lib.hid (fun (W : World) (hb : Below w.heap.size w W)=>specIsBetting_any L b W (h.below hb) z)
 have KL:=Lib.hid (fun (k : Ok b) (W : World) (hW : Rd5 W L b)=>l10Live_any L b W hW (by have:=k.n6;have:=k.l4;omega))
 have KP:=Lib.hid (fun (k : Ok b) (W : World) (hW : Rd5 W L b)=>l10Pot_any L b W hW (by have:=k.n6;have:=k.l2;omega) (by have:=k.n6;have:=k.l3;omega) k.s2 k.s3)
 have KS:=Lib.hid (fun (k : Ok b) (W : World) (hW : Rd5 W L b)=>l01SumC_any L.a1 L.c1 b.st W hW.r1 (by have:=k.n6;omega) k.s1)
 have BT:=btAt_new h
 have B:=Lib.hid (bl_box (w:=w) (L:=L) (b:=b))
 have BN:=Lib.hid BT
 have hmx : Try.prog.follows .mixedOrders = true:=by kernel_rfl
 obtain ⟨q0,_⟩:=BT.blk.cell 0 _ rfl
 obtain ⟨q1,_⟩:=BT.blk.cell 1 _ rfl
 obtain ⟨q2,_⟩:=BT.blk.cell 2 _ rfl
 obtain ⟨q3,_⟩:=BT.blk.cell 3 _ rfl
 obtain ⟨q4,_⟩:=BT.blk.cell 4 _ rfl
 obtain ⟨q5,_⟩:=BT.blk.cell 5 _ rfl
 obtain ⟨q6,_⟩:=BT.blk.cell 6 _ rfl
 obtain ⟨q7,_⟩:=BT.blk.cell 7 _ rfl
 obtain ⟨q8,_⟩:=BT.blk.cell 8 _ rfl
 clear h BT z KP KS
 rcases hv : okB b with _ | _
 ·have e1 : liveR b = []:=by unfold liveR;rw [hv];rfl
  have e2 : okC b = 1:=by unfold okC;rw [hv];rfl
  rw [hv] at KV
  rw [e1,e2]
  clear KL hv e1 e2
  unfold bV at *
  go_enter Try.func31,Try.ntmps31
  go_wp2_with (first
    | (go_at_call 18;refine (KV.out _ B.out).mono ?_;rintro e w2 ⟨rfl,hb⟩;have BNa:=Lib.hid (BN.out.below hb);have Ba:=Lib.hid (bl_trans B.out hb);obtain ⟨u0,-⟩:=BNa.out.blk.cell 0 _ rfl;obtain ⟨u1,-⟩:=BNa.out.blk.cell 1 _ rfl;obtain ⟨u2,-⟩:=BNa.out.blk.cell 2 _ rfl;obtain ⟨u3,-⟩:=BNa.out.blk.cell 3 _ rfl;obtain ⟨u4,-⟩:=BNa.out.blk.cell 4 _ rfl;obtain ⟨u5,-⟩:=BNa.out.blk.cell 5 _ rfl;obtain ⟨u6,-⟩:=BNa.out.blk.cell 6 _ rfl;obtain ⟨u7,-⟩:=BNa.out.blk.cell 7 _ rfl;obtain ⟨u8,-⟩:=BNa.out.blk.cell 8 _ rfl))
  go_ret2
  exact ⟨none,0,rfl,Row.nil _ _,Ba.out⟩
 ·have e1 : liveR b = liveL b b.fo.length:=by unfold liveR;rw [hv,(ok_of hv).l4];rfl
  have e2 : okC b = 0:=by unfold okC;rw [hv];rfl
  have KK:=Lib.hid (KL.out (ok_of hv))
  rw [hv] at KV
  rw [e1,e2]
  clear KL hv e1 e2
  unfold bV at *
  generalize liveL b b.fo.length = r at *
  go_enter Try.func31,Try.ntmps31
  go_wp2_with (first
    | (go_at_call 18;refine (KV.out _ B.out).mono ?_;rintro e w2 ⟨rfl,hb⟩;have BNa:=Lib.hid (BN.out.below hb);have Ba:=Lib.hid (bl_trans B.out hb);obtain ⟨u0,-⟩:=BNa.out.blk.cell 0 _ rfl;obtain ⟨u1,-⟩:=BNa.out.blk.cell 1 _ rfl;obtain ⟨u2,-⟩:=BNa.out.blk.cell 2 _ rfl;obtain ⟨u3,-⟩:=BNa.out.blk.cell 3 _ rfl;obtain ⟨u4,-⟩:=BNa.out.blk.cell 4 _ rfl;obtain ⟨u5,-⟩:=BNa.out.blk.cell 5 _ rfl;obtain ⟨u6,-⟩:=BNa.out.blk.cell 6 _ rfl;obtain ⟨u7,-⟩:=BNa.out.blk.cell 7 _ rfl;obtain ⟨u8,-⟩:=BNa.out.blk.cell 8 _ rfl)
    | (go_at_call 95;refine (KK.out _ BNa.out.rd).mono ?_;rintro e wm ⟨A,c,rfl,ho,hb2⟩;have HO:=Lib.hid (Row.of_own (ho.less Ba.out.size));have Bb:=Lib.hid (bl_trans Ba.out hb2)))
  go_ret2
  exact ⟨A,c,rfl,HO.out,Bb.out⟩
end Go.Proofs.Ytnllndcajdofjaa
