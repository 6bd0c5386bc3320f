/-
 The law FnExactApplyAction returns true for every round and every action, and leaves the round as it was: ApplyAction answers as its model, with a round of its own.
 No condition.
-/
import Derived.Test.YthgfohdjpfhebaaActHelp
import Derived.Test.YthgfohdjpfhebaaSpecBetP
import Derived.Test.YthgfohdjpfhebaaBetSt
import Derived.Lib.SmallJoins
import Derived.Deep.DeepCutAuto
import Derived.WalkKit
namespace Go.Proofs.Ythgfohdjpfhebaa
open Go.ChangeShapes Go.WideShapes Go.ChangeAt Go.RowKit Go.Joins
set_option linter.unusedVariables false

theorem sm_z : Sm zB:=⟨by decide,by decide,by decide,by decide,by decide⟩
theorem sm_apply (b : Bt) (k x : Int) : Sm (applyR b k x):=by
 unfold applyR
 split
 ·next h =>
  obtain ⟨h1,h2,h3⟩:=actC_zero h
  obtain ⟨i,hi⟩:=Int.eq_ofNat_of_zero_le h1.t0
  obtain ⟨d,a⟩:=act_of h1 h3 hi
  have n6:=h1.n6
  have l2:=h1.l2
  have l3:=h1.l3
  have l4:=h1.l4
  have l5:=h1.l5
  refine ⟨by rw [a.stl];omega,by rw [a.bt,List.length_set];omega,by rw [a.pd];omega,?_,by rw [a.acl];omega⟩
  rw [a.fo];split
  ·rw [List.length_set];omega
  ·omega
 ·exact sm_z
set_option maxRecDepth 100000 in
set_option maxHeartbeats 2000000 in
theorem walkApplyAction_big (L : At5) (b : Bt) (kk xx : Int) (w : World) (hm : Mx b) (h : (1048576 : Int) - (b.st.length : Int) - (b.bt.length : Int) - (b.pd.length : Int) - (b.fo.length : Int) - (b.ac.length : Int) < 0) :
  Calls Try.prog 8 #[bV L b,acV kk xx] w (Fresh (.bool true) w):=by
 have KZ:=Lib.hid (fun W : World=>szBetting_no L b 1048576 W (by omega) (by omega) hm h)
 have N0:=blk_new w 62 [.slice L.a1 b.st.length L.c1,.slice L.a2 b.bt.length L.c2,.slice L.a3 b.pd.length L.c3,.slice L.a4 b.fo.length L.c4,.slice L.a5 b.ac.length L.c5,.int .i64 b.tu,.int .i64 b.un,.int .i64 b.ra,.int .i64 b.li]
 obtain ⟨q0,-⟩:=N0.cell 0 _ rfl
 obtain ⟨q1,-⟩:=N0.cell 1 _ rfl
 obtain ⟨q2,-⟩:=N0.cell 2 _ rfl
 obtain ⟨q3,-⟩:=N0.cell 3 _ rfl
 obtain ⟨q4,-⟩:=N0.cell 4 _ rfl
 obtain ⟨q5,-⟩:=N0.cell 5 _ rfl
 obtain ⟨q6,-⟩:=N0.cell 6 _ rfl
 obtain ⟨q7,-⟩:=N0.cell 7 _ rfl
 obtain ⟨q8,-⟩:=N0.cell 8 _ rfl
 have N1:=N0.below (bl_alloc (bl_refl _) (.cells ([.int .i64 kk,.int .i64 xx] : List Value).toArray 63))
 obtain ⟨p0,-⟩:=N1.cell 0 _ rfl
 obtain ⟨p1,-⟩:=N1.cell 1 _ rfl
 obtain ⟨p2,-⟩:=N1.cell 2 _ rfl
 obtain ⟨p3,-⟩:=N1.cell 3 _ rfl
 obtain ⟨p4,-⟩:=N1.cell 4 _ rfl
 obtain ⟨p5,-⟩:=N1.cell 5 _ rfl
 obtain ⟨p6,-⟩:=N1.cell 6 _ rfl
 obtain ⟨p7,-⟩:=N1.cell 7 _ rfl
 obtain ⟨p8,-⟩:=N1.cell 8 _ rfl
 have B:=Lib.hid (bl_alloc (bl_alloc (bl_refl w) (.cells ([.slice L.a1 b.st.length L.c1,.slice L.a2 b.bt.length L.c2,.slice L.a3 b.pd.length L.c3,.slice L.a4 b.fo.length L.c4,.slice L.a5 b.ac.length L.c5,.int .i64 b.tu,.int .i64 b.un,.int .i64 b.ra,.int .i64 b.li] : List Value).toArray 62)) (.cells ([.int .i64 kk,.int .i64 xx] : List Value).toArray 63))
 clear N0 N1 hm h
 unfold bV acV at *
 go_enter Try.func8,Try.ntmps8
 go_wp2_with (go_at_call 55;refine (KZ.out _).mono ?_;rintro e wn ⟨rfl,hb⟩;have Ba:=Lib.hid (bl_trans B.out hb))
 go_ret
 exact ⟨rfl,Ba.out⟩
set_option maxRecDepth 100000 in
set_option maxHeartbeats 3000000 in
theorem walkApplyAction_in (L : At5) (b : Bt) (kk xx : Int) (w : World) (hr : Rd5 w L b) (hs : 0 ≤ (1048576 : Int) - (b.st.length : Int) - (b.bt.length : Int) - (b.pd.length : Int) - (b.fo.length : Int) - (b.ac.length : Int)) (m : Sm b) :
  Calls Try.prog 8 #[bV L b,acV kk xx] w (Fresh (.bool true) w):=by
 have KZ:=Lib.hid (fun W : World=>szBetting_yes L b 1048576 W (by omega) (by omega) hs)
 have KT:=Lib.hid (fun (W : World) (h : Below w.heap.size w W)=>toBetting_any L b W (hr.below h) m)
 obtain ⟨zz,ez⟩ : ∃ z : Int,z = (1048576 : Int) - (b.st.length : Int) - (b.bt.length : Int) - (b.pd.length : Int) - (b.fo.length : Int) - (b.ac.length : Int):=⟨_,rfl⟩
 rw [← ez] at KZ hs
 have dz : decide (zz < 0) = false:=decide_eq_false (by omega)
 clear ez
 have z : Sz b:=⟨by have:=m.m1;omega,by have:=m.m2;omega,by have:=m.m3;omega⟩
 have hmx : Try.prog.follows .mixedOrders = true:=by kernel_rfl
 have iB : (Try.prog.info? 27).map (·.size) = some 9:=by kernel_rfl
 have KA:=Lib.hid (fun W : World=>toAction_any kk xx W)
 obtain ⟨r,ky,mr,K1,K2⟩ : ∃ (r : Bt) (ky : Int),Sm r ∧ Hid (∀ (L : At5) (W : World),Rd5 W L b → Calls Try.prog 28 #[bV L b,acV kk xx] W (NewBtC r ky W)) ∧ Hid (∀ (L : At5) (W : World),Rd5 W L b → Calls Try.prog 27 #[bV L b,acV kk xx] W (NewBtC r ky W)) :=
  ⟨applyR b kk xx,actC b kk xx,sm_apply b kk xx,Lib.hid (fun L W h=>specApply_any L b kk xx W h z),Lib.hid (fun L W h=>implApply_any L b kk xx W h)⟩
 obtain ⟨kt,ekt⟩ : ∃ kt : Int,kt = (1 : Int) + (b.st.length : Int) + (b.bt.length : Int) + (b.pd.length : Int) + (b.fo.length : Int) + (b.ac.length : Int):=⟨_,rfl⟩
 obtain ⟨mt,emt⟩ : ∃ kt : Int,kt = (1 : Int) + (r.st.length : Int) + (r.bt.length : Int) + (r.pd.length : Int) + (r.fo.length : Int) + (r.ac.length : Int):=⟨_,rfl⟩
 have k1 : decide (kt < 0) = false:=decide_eq_false (by omega)
 have k2 : decide (mt < 0) = false:=decide_eq_false (by omega)
 have KM3:=Lib.hid (fun (L : At5) (lo hi : Nat) (W : World) (h : Row5 W lo L b) (hh : Hi5 L hi)=>markBetting_any L lo hi b 1 W h hh m (by omega) (by omega))
 have KM4:=Lib.hid (fun (L : At5) (lo hi : Nat) (W : World) (h : Row5 W lo L r) (hh : Hi5 L hi)=>markBetting_any L lo hi r 1 W h hh mr (by omega) (by omega))
 have KH4:=Lib.hid (fun (L : At5) (W : World) (h : Rd5 W L (mkB r 1))=>heldBetting_any L r 1 W h mr (by omega) (by omega))
 unfold MarkPost5 at KM3 KM4
 rw [← ekt] at KM3
 rw [← emt] at KM4 KH4
 clear hr z hs ekt emt
 unfold NewBtC NewBt bV acV at *
 have NA:=Lib.hid (blk_new w 62 [.slice L.a1 b.st.length L.c1,.slice L.a2 b.bt.length L.c2,.slice L.a3 b.pd.length L.c3,.slice L.a4 b.fo.length L.c4,.slice L.a5 b.ac.length L.c5,.int .i64 b.tu,.int .i64 b.un,.int .i64 b.ra,.int .i64 b.li])
 have B1:=Lib.hid (bl_alloc (bl_refl w) (.cells ([.slice L.a1 b.st.length L.c1,.slice L.a2 b.bt.length L.c2,.slice L.a3 b.pd.length L.c3,.slice L.a4 b.fo.length L.c4,.slice L.a5 b.ac.length L.c5,.int .i64 b.tu,.int .i64 b.un,.int .i64 b.ra,.int .i64 b.li] : List Value).toArray 62))
 have NC:=Lib.hid (blk_new (w.alloc (.cells ([.slice L.a1 b.st.length L.c1,.slice L.a2 b.bt.length L.c2,.slice L.a3 b.pd.length L.c3,.slice L.a4 b.fo.length L.c4,.slice L.a5 b.ac.length L.c5,.int .i64 b.tu,.int .i64 b.un,.int .i64 b.ra,.int .i64 b.li] : List Value).toArray 62)) 63 [.int .i64 kk,.int .i64 xx])
 have B2:=Lib.hid (bl_trans B1.out (bl_alloc (bl_refl (w.alloc (.cells ([.slice L.a1 b.st.length L.c1,.slice L.a2 b.bt.length L.c2,.slice L.a3 b.pd.length L.c3,.slice L.a4 b.fo.length L.c4,.slice L.a5 b.ac.length L.c5,.int .i64 b.tu,.int .i64 b.un,.int .i64 b.ra,.int .i64 b.li] : List Value).toArray 62))) (.cells ([.int .i64 kk,.int .i64 xx] : List Value).toArray 63)))
 simp only [World.size_alloc] at NC
 obtain ⟨q1,-⟩:=((NA.out.below (bl_alloc (bl_refl (w.alloc (.cells ([.slice L.a1 b.st.length L.c1,.slice L.a2 b.bt.length L.c2,.slice L.a3 b.pd.length L.c3,.slice L.a4 b.fo.length L.c4,.slice L.a5 b.ac.length L.c5,.int .i64 b.tu,.int .i64 b.un,.int .i64 b.ra,.int .i64 b.li] : List Value).toArray 62))) (.cells ([.int .i64 kk,.int .i64 xx] : List Value).toArray 63)))).cell 0 _ rfl;obtain ⟨q2,-⟩:=((NA.out.below (bl_alloc (bl_refl (w.alloc (.cells ([.slice L.a1 b.st.length L.c1,.slice L.a2 b.bt.length L.c2,.slice L.a3 b.pd.length L.c3,.slice L.a4 b.fo.length L.c4,.slice L.a5 b.ac.length L.c5,.int .i64 b.tu,.int .i64 b.un,.int .i64 b.ra,.int .i64 b.li] : List Value).toArray 62))) (.cells ([.int .i64 kk,.int .i64 xx] : List Value).toArray 63)))).cell 1 _ rfl;obtain ⟨q3,-⟩:=((NA.out.below (bl_alloc (bl_refl (w.alloc (.cells ([.slice L.a1 b.st.length L.c1,.slice L.a2 b.bt.length L.c2,.slice L.a3 b.pd.length L.c3,.slice L.a4 b.fo.length L.c4,.slice L.a5 b.ac.length L.c5,.int .i64 b.tu,.int .i64 b.un,.int .i64 b.ra,.int .i64 b.li] : List Value).toArray 62))) (.cells ([.int .i64 kk,.int .i64 xx] : List Value).toArray 63)))).cell 2 _ rfl;obtain ⟨q4,-⟩:=((NA.out.below (bl_alloc (bl_refl (w.alloc (.cells ([.slice L.a1 b.st.length L.c1,.slice L.a2 b.bt.length L.c2,.slice L.a3 b.pd.length L.c3,.slice L.a4 b.fo.length L.c4,.slice L.a5 b.ac.length L.c5,.int .i64 b.tu,.int .i64 b.un,.int .i64 b.ra,.int .i64 b.li] : List Value).toArray 62))) (.cells ([.int .i64 kk,.int .i64 xx] : List Value).toArray 63)))).cell 3 _ rfl;obtain ⟨q5,-⟩:=((NA.out.below (bl_alloc (bl_refl (w.alloc (.cells ([.slice L.a1 b.st.length L.c1,.slice L.a2 b.bt.length L.c2,.slice L.a3 b.pd.length L.c3,.slice L.a4 b.fo.length L.c4,.slice L.a5 b.ac.length L.c5,.int .i64 b.tu,.int .i64 b.un,.int .i64 b.ra,.int .i64 b.li] : List Value).toArray 62))) (.cells ([.int .i64 kk,.int .i64 xx] : List Value).toArray 63)))).cell 4 _ rfl;obtain ⟨q6,-⟩:=((NA.out.below (bl_alloc (bl_refl (w.alloc (.cells ([.slice L.a1 b.st.length L.c1,.slice L.a2 b.bt.length L.c2,.slice L.a3 b.pd.length L.c3,.slice L.a4 b.fo.length L.c4,.slice L.a5 b.ac.length L.c5,.int .i64 b.tu,.int .i64 b.un,.int .i64 b.ra,.int .i64 b.li] : List Value).toArray 62))) (.cells ([.int .i64 kk,.int .i64 xx] : List Value).toArray 63)))).cell 5 _ rfl;obtain ⟨q7,-⟩:=((NA.out.below (bl_alloc (bl_refl (w.alloc (.cells ([.slice L.a1 b.st.length L.c1,.slice L.a2 b.bt.length L.c2,.slice L.a3 b.pd.length L.c3,.slice L.a4 b.fo.length L.c4,.slice L.a5 b.ac.length L.c5,.int .i64 b.tu,.int .i64 b.un,.int .i64 b.ra,.int .i64 b.li] : List Value).toArray 62))) (.cells ([.int .i64 kk,.int .i64 xx] : List Value).toArray 63)))).cell 6 _ rfl;obtain ⟨q8,-⟩:=((NA.out.below (bl_alloc (bl_refl (w.alloc (.cells ([.slice L.a1 b.st.length L.c1,.slice L.a2 b.bt.length L.c2,.slice L.a3 b.pd.length L.c3,.slice L.a4 b.fo.length L.c4,.slice L.a5 b.ac.length L.c5,.int .i64 b.tu,.int .i64 b.un,.int .i64 b.ra,.int .i64 b.li] : List Value).toArray 62))) (.cells ([.int .i64 kk,.int .i64 xx] : List Value).toArray 63)))).cell 7 _ rfl;obtain ⟨q9,-⟩:=((NA.out.below (bl_alloc (bl_refl (w.alloc (.cells ([.slice L.a1 b.st.length L.c1,.slice L.a2 b.bt.length L.c2,.slice L.a3 b.pd.length L.c3,.slice L.a4 b.fo.length L.c4,.slice L.a5 b.ac.length L.c5,.int .i64 b.tu,.int .i64 b.un,.int .i64 b.ra,.int .i64 b.li] : List Value).toArray 62))) (.cells ([.int .i64 kk,.int .i64 xx] : List Value).toArray 63)))).cell 8 _ rfl;obtain ⟨q10,-⟩:=(NC.out).cell 0 _ rfl;obtain ⟨q11,-⟩:=(NC.out).cell 1 _ rfl
 go_enter Try.func8,Try.ntmps8
 go_upto_region 5 with (go_at_call 55;refine (KZ.out _).mono ?_;rintro e w3 ⟨rfl,hb⟩;have X3:=Lib.hid hb;have B3:=Lib.hid (bl_trans B2.out hb);clear q1 q2 q3 q4 q5 q6 q7 q8 q9 q10 q11)
 have BW:=Lib.hid B3.out
 have NA5:=Lib.hid ((NA.out.below (bl_alloc (bl_refl (w.alloc (.cells ([.slice L.a1 b.st.length L.c1,.slice L.a2 b.bt.length L.c2,.slice L.a3 b.pd.length L.c3,.slice L.a4 b.fo.length L.c4,.slice L.a5 b.ac.length L.c5,.int .i64 b.tu,.int .i64 b.un,.int .i64 b.ra,.int .i64 b.li] : List Value).toArray 62))) (.cells ([.int .i64 kk,.int .i64 xx] : List Value).toArray 63))).below X3.out)
 have NC5:=Lib.hid (NC.out.below X3.out)
 clear NA NC
 have NA:=NA5
 have NC:=NC5
 clear NA5 NC5
 go_cut [6,7] (fun s6 s7 wx=>∃ (gb lo hi : Nat) (L2 : At5),s6 = .pointer (some ⟨gb,0,none⟩) ∧ s7 = .int .i64 ky ∧ Hid (St w3.heap.size wx gb lo hi L2 r) ∧ Hid (Below w3.heap.size w3 wx))
 case first =>
  refine wp_region_W (last:=10) (k:=10) hmx rfl (fun HC0=>?_)
  refine wpAnyR_takeL (i:=0) (kw:=5) (v:=.agg #[.slice L.a1 b.st.length L.c1,.slice L.a2 b.bt.length L.c2,.slice L.a3 b.pd.length L.c3,.slice L.a4 b.fo.length L.c4,.slice L.a5 b.ac.length L.c5,.int .i64 b.tu,.int .i64 b.un,.int .i64 b.ra,.int .i64 b.li]) (fun _=>bl_refl _) (fun p q=>bl_trans p q) rfl rfl (by kernel_rfl) (by kernel_rfl) (by kernel_rfl) (by kernel_rfl) (fun _ _ _ h=>h) HC0 (Or.inl ⟨by kernel_rfl,fun W' hI=>?_⟩) (fun HC1=>?_)
  ·have hv:=(NA.out).below hI
   obtain ⟨z0,_⟩:=hv.cell 0 _ rfl;obtain ⟨z1,_⟩:=hv.cell 1 _ rfl;obtain ⟨z2,_⟩:=hv.cell 2 _ rfl;obtain ⟨z3,_⟩:=hv.cell 3 _ rfl;obtain ⟨z4,_⟩:=hv.cell 4 _ rfl;obtain ⟨z5,_⟩:=hv.cell 5 _ rfl;obtain ⟨z6,_⟩:=hv.cell 6 _ rfl;obtain ⟨z7,_⟩:=hv.cell 7 _ rfl;obtain ⟨z8,_⟩:=hv.cell 8 _ rfl
   exact .inl (by go_simp)
  refine wpAnyR_takeL (i:=2) (kw:=5) (v:=.agg #[.int .i64 kk,.int .i64 xx]) (fun _=>bl_refl _) (fun p q=>bl_trans p q) rfl rfl (by kernel_rfl) (by kernel_rfl) (by kernel_rfl) (by kernel_rfl) (fun _ _ _ h=>h) HC1 (Or.inl ⟨by kernel_rfl,fun W' hI=>?_⟩) (fun HC2=>?_)
  ·have hv:=(NC.out).below hI
   obtain ⟨z0,_⟩:=hv.cell 0 _ rfl
   obtain ⟨z1,_⟩:=hv.cell 1 _ rfl
   exact .inl (by go_simp)
  refine wpAnyR_twoU HC2 (i:=1) (j:=8) (by kernel_rfl) rfl rfl (by kernel_rfl) (by kernel_rfl) (fun _ hr=>bl_drewT hr) (fun wa1 hr K hK=>?_) (fun wa1 hr K hK=>?_)
  ·have BA:=Lib.hid (bl_drewT hr)
   clear hr
   go_simp
   go_wp2_with (go_at_call 56;refine (KT.out _ (bl_trans BW.out BA.out)).mono ?_;rintro e wb1 ⟨L1,rfl,ho,hb⟩;have O1:=Lib.hid ho.rd;have BB1:=Lib.hid (bl_trans BA.out hb);clear ho hb)
   intro HC3
   refine wpAnyR_takeL (i:=3) (kw:=4) (v:=.agg #[.int .i64 kk,.int .i64 xx]) (fun _=>bl_refl _) (fun p q=>bl_trans p q) rfl rfl (by kernel_rfl) (by kernel_rfl) (by kernel_rfl) (by kernel_rfl) (fun _ _ _ h=>h) HC3 (Or.inl ⟨by kernel_rfl,fun W' hI=>?_⟩) (fun HC4=>?_)
   ·exact .inr ⟨57,#[.agg #[.int .i64 kk,.int .i64 xx]],by go_simp,KA.out W'⟩
   refine wpAnyR_twoU HC4 (i:=4) (j:=8) (by kernel_rfl) rfl rfl (by kernel_rfl) (by kernel_rfl) (fun _ hr=>bl_trans BB1.out hr) (fun wa2 hr K hK=>?_) (fun wa2 hr K hK=>?_)
   ·have BA:=Lib.hid (bl_trans BB1.out hr)
    have O1a:=Lib.hid (O1.out.below (hr))
    clear O1
    have O1:=O1a
    clear O1a
    clear hr
    go_simp
    go_wp2_with (go_at_call 28;refine (K1.out L1 wa2 O1.out).mono ?_;rintro e wb2 ⟨L2,rfl,ho,hb⟩;have RB:=Lib.hid ho;have BB2:=Lib.hid (bl_trans BA.out hb);have NL:=Lib.hid BA.out.size;clear ho hb)
    intro HC5
    refine wpAnyR_takeL (i:=5) (kw:=3) (v:=.tuple #[.agg #[.slice L2.a1 r.st.length L2.c1,.slice L2.a2 r.bt.length L2.c2,.slice L2.a3 r.pd.length L2.c3,.slice L2.a4 r.fo.length L2.c4,.slice L2.a5 r.ac.length L2.c5,.int .i64 r.tu,.int .i64 r.un,.int .i64 r.ra,.int .i64 r.li],.int .i64 ky]) (fun _=>bl_refl _) (fun p q=>bl_trans p q) rfl rfl (by kernel_rfl) (by kernel_rfl) (by kernel_rfl) (by kernel_rfl) (fun _ _ _ h=>h) HC5 (Or.inl ⟨by kernel_rfl,fun W' hI=>?_⟩) (fun HC6=>?_)
    ·exact .inl (by go_simp)
    refine wpAnyR_takeL (i:=6) (kw:=2) (v:=.agg #[.slice L2.a1 r.st.length L2.c1,.slice L2.a2 r.bt.length L2.c2,.slice L2.a3 r.pd.length L2.c3,.slice L2.a4 r.fo.length L2.c4,.slice L2.a5 r.ac.length L2.c5,.int .i64 r.tu,.int .i64 r.un,.int .i64 r.ra,.int .i64 r.li]) (fun _=>bl_refl _) (fun p q=>bl_trans p q) rfl rfl (by kernel_rfl) (by kernel_rfl) (by kernel_rfl) (by kernel_rfl) (fun _ _ _ h=>h) HC6 (Or.inl ⟨by kernel_rfl,fun W' hI=>?_⟩) (fun HC7=>?_)
    ·exact .inl (by go_simp)
    refine wpAnyR_takeL (i:=7) (kw:=2) (v:=.int .i64 ky) (fun _=>bl_refl _) (fun p q=>bl_trans p q) rfl rfl (by kernel_rfl) (by kernel_rfl) (by kernel_rfl) (by kernel_rfl) (fun _ _ _ h=>h) HC7 (Or.inl ⟨by kernel_rfl,fun W' hI=>?_⟩) (fun HC8=>?_)
    ·exact .inl (by go_simp)
    refine wpAnyR_oneL HC8 (i:=8) (by kernel_rfl) rfl (by kernel_rfl) (fun wa3 hr=>⟨bl_trans BB2.out hr,?_⟩)
    intro K hK
    have BA:=Lib.hid (bl_trans BB2.out hr)
    have RBa:=Lib.hid (RB.out.below (hr))
    clear RB
    have RB:=RBa
    clear RBa
    clear hr
    go_simp
    refine hK _ _ (fun HC9=>?_)
    clear hK K
    obtain ⟨gb,egb⟩ : ∃ g,g = wa3.heap.size:=⟨_,rfl⟩
    obtain ⟨wb3,ewb⟩ : ∃ W,W = wa3.alloc (.cells ([.slice none 0 0,.slice none 0 0,.slice none 0 0,.slice none 0 0,.slice none 0 0,.int .i64 0,.int .i64 0,.int .i64 0,.int .i64 0] : List Value).toArray 27):=⟨_,rfl⟩
    have GB : Hid (Blk wb3 gb 27 [.slice none 0 0,.slice none 0 0,.slice none 0 0,.slice none 0 0,.slice none 0 0,.int .i64 0,.int .i64 0,.int .i64 0,.int .i64 0]):=by rw [ewb,egb];exact Lib.hid (blk_new wa3 _ _)
    have BB3 : Hid (Below w3.heap.size w3 wb3):=by rw [ewb];exact Lib.hid (bl_alloc BA.out _)
    have G0 : Hid (w3.heap.size ≤ gb):=by rw [egb];exact Lib.hid BA.out.size
    have RBa : Hid (Row5 wb3 wa2.heap.size L2 r):=by rw [ewb];exact Lib.hid (RB.out.below (bl_alloc (bl_refl _) _))
    have HIR : Hid (Hi5 L2 gb):=by rw [egb];exact Lib.hid RB.out.hi
    clear RB
    have RB:=RBa
    clear RBa
    simp only [List.toArray] at ewb
    rw [← ewb,← egb]
    clear egb ewb
    refine wpAnyR_oneL HC9 (i:=9) (by kernel_rfl) rfl (by kernel_rfl) (fun ws hr=>⟨bl_trans BB3.out hr,?_⟩)
    intro K hK
    have BS:=Lib.hid (bl_trans BB3.out hr)
    have GS:=Lib.hid (GB.out.below hr)
    have RS:=Lib.hid (RB.out.below hr)
    clear hr
    try simp only [Act.put,List.setIfInBounds_toArray,List.set_cons_succ,List.set_cons_zero]
    refine wp_store_blk 27 9 (.tmp 6) (.tmp 27) rfl iB gb rfl [.slice L2.a1 r.st.length L2.c1,.slice L2.a2 r.bt.length L2.c2,.slice L2.a3 r.pd.length L2.c3,.slice L2.a4 r.fo.length L2.c4,.slice L2.a5 r.ac.length L2.c5,.int .i64 r.tu,.int .i64 r.un,.int .i64 r.ra,.int .i64 r.li] rfl rfl (by simp [Value.oneCell']) _ GS.out rfl ?_
    intro wt k9 g9
    refine hK _ _ (fun HX1=>?_)
    clear hK K
    have BT9:=Lib.hid (below_grown1 BS.out g9 G0.out)
    have HK9:=Lib.hid k9
    have HG9:=Lib.hid g9
    clear k9 g9
    refine wpAnyR_lastL (by kernel_rfl) (by kernel_rfl) rfl (by kernel_rfl) (fun wu hr=>⟨bl_trans BT9.out hr,?_⟩)
    intro K hK
    have BU:=Lib.hid (bl_trans BT9.out hr)
    have HKU:=Lib.hid (HK9.out.below hr)
    have RU:=Lib.hid ((RS.out.grownA HG9.out HIR.out).below hr)
    clear hr
    go_simp
    refine hK _ _ ?_
    clear hK K
    go_wp2_with fail
    go_meet
    exact ⟨gb,_,_,L2,rfl,rfl,Lib.hid ⟨HKU.out,RU.out,HIR.out,.inr (Nat.le_refl _),NL.out,G0.out,Nat.le_of_lt HKU.out.lt⟩,Lib.hid BU.out⟩
   ·have BA:=Lib.hid (bl_trans BB1.out hr)
    have O1a:=Lib.hid (O1.out.below (hr))
    clear O1
    have O1:=O1a
    clear O1a
    clear hr
    go_simp
    refine hK _ _ (fun HC10=>?_)
    clear hK K
    obtain ⟨gb,egb⟩ : ∃ g,g = wa2.heap.size:=⟨_,rfl⟩
    obtain ⟨wb2,ewb⟩ : ∃ W,W = wa2.alloc (.cells ([.slice none 0 0,.slice none 0 0,.slice none 0 0,.slice none 0 0,.slice none 0 0,.int .i64 0,.int .i64 0,.int .i64 0,.int .i64 0] : List Value).toArray 27):=⟨_,rfl⟩
    have GB : Hid (Blk wb2 gb 27 [.slice none 0 0,.slice none 0 0,.slice none 0 0,.slice none 0 0,.slice none 0 0,.int .i64 0,.int .i64 0,.int .i64 0,.int .i64 0]):=by rw [ewb,egb];exact Lib.hid (blk_new wa2 _ _)
    have BB2 : Hid (Below w3.heap.size w3 wb2):=by rw [ewb];exact Lib.hid (bl_alloc BA.out _)
    have G0 : Hid (w3.heap.size ≤ gb):=by rw [egb];exact Lib.hid BA.out.size
    have O1a : Hid (Rd5 wb2 L1 b):=by rw [ewb];exact Lib.hid (O1.out.below (bl_alloc (bl_refl _) _))
    clear O1
    have O1:=O1a
    clear O1a
    simp only [List.toArray] at ewb
    rw [← ewb,← egb]
    clear egb ewb
    refine wpAnyR_oneL HC10 (i:=4) (by kernel_rfl) rfl (by kernel_rfl) (fun wa3 hr=>⟨bl_trans BB2.out hr,?_⟩)
    intro K hK
    have BA:=Lib.hid (bl_trans BB2.out hr)
    have O1a:=Lib.hid (O1.out.below (hr))
    clear O1
    have O1:=O1a
    clear O1a
    have GBa:=Lib.hid (GB.out.below (hr))
    clear GB
    have GB:=GBa
    clear GBa
    clear hr
    go_simp
    go_wp2_with (go_at_call 28;refine (K1.out L1 wa3 O1.out).mono ?_;rintro e wb3 ⟨L2,rfl,ho,hb⟩;have RB:=Lib.hid ho;have BB3:=Lib.hid (bl_trans BA.out hb);have NL:=Lib.hid BA.out.size;have GBL:=Lib.hid GB.out.lt;have GBa:=Lib.hid (GB.out.below hb);clear GB;have GB:=GBa;clear GBa;clear ho hb)
    intro HC11
    have ORD : Hid (gb < wa3.heap.size):=GBL
    refine wpAnyR_takeL (i:=5) (kw:=3) (v:=.tuple #[.agg #[.slice L2.a1 r.st.length L2.c1,.slice L2.a2 r.bt.length L2.c2,.slice L2.a3 r.pd.length L2.c3,.slice L2.a4 r.fo.length L2.c4,.slice L2.a5 r.ac.length L2.c5,.int .i64 r.tu,.int .i64 r.un,.int .i64 r.ra,.int .i64 r.li],.int .i64 ky]) (fun _=>bl_refl _) (fun p q=>bl_trans p q) rfl rfl (by kernel_rfl) (by kernel_rfl) (by kernel_rfl) (by kernel_rfl) (fun _ _ _ h=>h) HC11 (Or.inl ⟨by kernel_rfl,fun W' hI=>?_⟩) (fun HC12=>?_)
    ·exact .inl (by go_simp)
    refine wpAnyR_takeL (i:=6) (kw:=2) (v:=.agg #[.slice L2.a1 r.st.length L2.c1,.slice L2.a2 r.bt.length L2.c2,.slice L2.a3 r.pd.length L2.c3,.slice L2.a4 r.fo.length L2.c4,.slice L2.a5 r.ac.length L2.c5,.int .i64 r.tu,.int .i64 r.un,.int .i64 r.ra,.int .i64 r.li]) (fun _=>bl_refl _) (fun p q=>bl_trans p q) rfl rfl (by kernel_rfl) (by kernel_rfl) (by kernel_rfl) (by kernel_rfl) (fun _ _ _ h=>h) HC12 (Or.inl ⟨by kernel_rfl,fun W' hI=>?_⟩) (fun HC13=>?_)
    ·exact .inl (by go_simp)
    refine wpAnyR_takeL (i:=7) (kw:=2) (v:=.int .i64 ky) (fun _=>bl_refl _) (fun p q=>bl_trans p q) rfl rfl (by kernel_rfl) (by kernel_rfl) (by kernel_rfl) (by kernel_rfl) (fun _ _ _ h=>h) HC13 (Or.inl ⟨by kernel_rfl,fun W' hI=>?_⟩) (fun HC14=>?_)
    ·exact .inl (by go_simp)
    refine wpAnyR_oneL HC14 (i:=9) (by kernel_rfl) rfl (by kernel_rfl) (fun ws hr=>⟨bl_trans BB3.out hr,?_⟩)
    intro K hK
    have BS:=Lib.hid (bl_trans BB3.out hr)
    have GS:=Lib.hid (GB.out.below hr)
    have RS:=Lib.hid (RB.out.below hr)
    clear hr
    try simp only [Act.put,List.setIfInBounds_toArray,List.set_cons_succ,List.set_cons_zero]
    refine wp_store_blk 27 9 (.tmp 6) (.tmp 27) rfl iB gb rfl [.slice L2.a1 r.st.length L2.c1,.slice L2.a2 r.bt.length L2.c2,.slice L2.a3 r.pd.length L2.c3,.slice L2.a4 r.fo.length L2.c4,.slice L2.a5 r.ac.length L2.c5,.int .i64 r.tu,.int .i64 r.un,.int .i64 r.ra,.int .i64 r.li] rfl rfl (by simp [Value.oneCell']) _ GS.out rfl ?_
    intro wt k9 g9
    refine hK _ _ (fun HX1=>?_)
    clear hK K
    have BT9:=Lib.hid (below_grown1 BS.out g9 G0.out)
    have HK9:=Lib.hid k9
    have HG9:=Lib.hid g9
    clear k9 g9
    refine wpAnyR_lastL (by kernel_rfl) (by kernel_rfl) rfl (by kernel_rfl) (fun wu hr=>⟨bl_trans BT9.out hr,?_⟩)
    intro K hK
    have BU:=Lib.hid (bl_trans BT9.out hr)
    have HKU:=Lib.hid (HK9.out.below hr)
    have RU:=Lib.hid ((RS.out.grownB' HG9.out ORD.out).below hr)
    clear hr
    go_simp
    refine hK _ _ ?_
    clear hK K
    go_wp2_with fail
    go_meet
    exact ⟨gb,_,_,L2,rfl,rfl,Lib.hid ⟨HKU.out,RU.out,RU.out.hi,.inl ORD.out,NL.out,G0.out,Nat.le_refl _⟩,Lib.hid BU.out⟩
  ·have BA:=Lib.hid (bl_drewT hr)
   clear hr
   go_simp
   refine hK _ _ (fun HC15=>?_)
   clear hK K
   obtain ⟨gb,egb⟩ : ∃ g,g = wa1.heap.size:=⟨_,rfl⟩
   obtain ⟨wb1,ewb⟩ : ∃ W,W = wa1.alloc (.cells ([.slice none 0 0,.slice none 0 0,.slice none 0 0,.slice none 0 0,.slice none 0 0,.int .i64 0,.int .i64 0,.int .i64 0,.int .i64 0] : List Value).toArray 27):=⟨_,rfl⟩
   have GB : Hid (Blk wb1 gb 27 [.slice none 0 0,.slice none 0 0,.slice none 0 0,.slice none 0 0,.slice none 0 0,.int .i64 0,.int .i64 0,.int .i64 0,.int .i64 0]):=by rw [ewb,egb];exact Lib.hid (blk_new wa1 _ _)
   have BB1 : Hid (Below w3.heap.size w3 wb1):=by rw [ewb];exact Lib.hid (bl_alloc BA.out _)
   have G0 : Hid (w3.heap.size ≤ gb):=by rw [egb];exact Lib.hid BA.out.size
   simp only [List.toArray] at ewb
   rw [← ewb,← egb]
   clear egb ewb
   refine wpAnyR_oneL HC15 (i:=1) (by kernel_rfl) rfl (by kernel_rfl) (fun wa2 hr=>⟨bl_trans BB1.out hr,?_⟩)
   intro K hK
   have BA:=Lib.hid (bl_trans BB1.out hr)
   have GBa:=Lib.hid (GB.out.below (hr))
   clear GB
   have GB:=GBa
   clear GBa
   clear hr
   go_simp
   go_wp2_with (go_at_call 56;refine (KT.out _ (bl_trans BW.out BA.out)).mono ?_;rintro e wb2 ⟨L1,rfl,ho,hb⟩;have O1:=Lib.hid ho.rd;have BB2:=Lib.hid (bl_trans BA.out hb);have GBa:=Lib.hid (GB.out.below hb);clear GB;have GB:=GBa;clear GBa;clear ho hb)
   intro HC16
   refine wpAnyR_takeL (i:=3) (kw:=4) (v:=.agg #[.int .i64 kk,.int .i64 xx]) (fun _=>bl_refl _) (fun p q=>bl_trans p q) rfl rfl (by kernel_rfl) (by kernel_rfl) (by kernel_rfl) (by kernel_rfl) (fun _ _ _ h=>h) HC16 (Or.inl ⟨by kernel_rfl,fun W' hI=>?_⟩) (fun HC17=>?_)
   ·exact .inr ⟨57,#[.agg #[.int .i64 kk,.int .i64 xx]],by go_simp,KA.out W'⟩
   refine wpAnyR_oneL HC17 (i:=4) (by kernel_rfl) rfl (by kernel_rfl) (fun wa3 hr=>⟨bl_trans BB2.out hr,?_⟩)
   intro K hK
   have BA:=Lib.hid (bl_trans BB2.out hr)
   have O1a:=Lib.hid (O1.out.below (hr))
   clear O1
   have O1:=O1a
   clear O1a
   have GBa:=Lib.hid (GB.out.below (hr))
   clear GB
   have GB:=GBa
   clear GBa
   clear hr
   go_simp
   go_wp2_with (go_at_call 28;refine (K1.out L1 wa3 O1.out).mono ?_;rintro e wb3 ⟨L2,rfl,ho,hb⟩;have RB:=Lib.hid ho;have BB3:=Lib.hid (bl_trans BA.out hb);have NL:=Lib.hid BA.out.size;have GBL:=Lib.hid GB.out.lt;have GBa:=Lib.hid (GB.out.below hb);clear GB;have GB:=GBa;clear GBa;clear ho hb)
   intro HC18
   have ORD : Hid (gb < wa3.heap.size):=GBL
   refine wpAnyR_takeL (i:=5) (kw:=3) (v:=.tuple #[.agg #[.slice L2.a1 r.st.length L2.c1,.slice L2.a2 r.bt.length L2.c2,.slice L2.a3 r.pd.length L2.c3,.slice L2.a4 r.fo.length L2.c4,.slice L2.a5 r.ac.length L2.c5,.int .i64 r.tu,.int .i64 r.un,.int .i64 r.ra,.int .i64 r.li],.int .i64 ky]) (fun _=>bl_refl _) (fun p q=>bl_trans p q) rfl rfl (by kernel_rfl) (by kernel_rfl) (by kernel_rfl) (by kernel_rfl) (fun _ _ _ h=>h) HC18 (Or.inl ⟨by kernel_rfl,fun W' hI=>?_⟩) (fun HC19=>?_)
   ·exact .inl (by go_simp)
   refine wpAnyR_takeL (i:=6) (kw:=2) (v:=.agg #[.slice L2.a1 r.st.length L2.c1,.slice L2.a2 r.bt.length L2.c2,.slice L2.a3 r.pd.length L2.c3,.slice L2.a4 r.fo.length L2.c4,.slice L2.a5 r.ac.length L2.c5,.int .i64 r.tu,.int .i64 r.un,.int .i64 r.ra,.int .i64 r.li]) (fun _=>bl_refl _) (fun p q=>bl_trans p q) rfl rfl (by kernel_rfl) (by kernel_rfl) (by kernel_rfl) (by kernel_rfl) (fun _ _ _ h=>h) HC19 (Or.inl ⟨by kernel_rfl,fun W' hI=>?_⟩) (fun HC20=>?_)
   ·exact .inl (by go_simp)
   refine wpAnyR_takeL (i:=7) (kw:=2) (v:=.int .i64 ky) (fun _=>bl_refl _) (fun p q=>bl_trans p q) rfl rfl (by kernel_rfl) (by kernel_rfl) (by kernel_rfl) (by kernel_rfl) (fun _ _ _ h=>h) HC20 (Or.inl ⟨by kernel_rfl,fun W' hI=>?_⟩) (fun HC21=>?_)
   ·exact .inl (by go_simp)
   refine wpAnyR_oneL HC21 (i:=9) (by kernel_rfl) rfl (by kernel_rfl) (fun ws hr=>⟨bl_trans BB3.out hr,?_⟩)
   intro K hK
   have BS:=Lib.hid (bl_trans BB3.out hr)
   have GS:=Lib.hid (GB.out.below hr)
   have RS:=Lib.hid (RB.out.below hr)
   clear hr
   try simp only [Act.put,List.setIfInBounds_toArray,List.set_cons_succ,List.set_cons_zero]
   refine wp_store_blk 27 9 (.tmp 6) (.tmp 27) rfl iB gb rfl [.slice L2.a1 r.st.length L2.c1,.slice L2.a2 r.bt.length L2.c2,.slice L2.a3 r.pd.length L2.c3,.slice L2.a4 r.fo.length L2.c4,.slice L2.a5 r.ac.length L2.c5,.int .i64 r.tu,.int .i64 r.un,.int .i64 r.ra,.int .i64 r.li] rfl rfl (by simp [Value.oneCell']) _ GS.out rfl ?_
   intro wt k9 g9
   refine hK _ _ (fun HX1=>?_)
   clear hK K
   have BT9:=Lib.hid (below_grown1 BS.out g9 G0.out)
   have HK9:=Lib.hid k9
   have HG9:=Lib.hid g9
   clear k9 g9
   refine wpAnyR_lastL (by kernel_rfl) (by kernel_rfl) rfl (by kernel_rfl) (fun wu hr=>⟨bl_trans BT9.out hr,?_⟩)
   intro K hK
   have BU:=Lib.hid (bl_trans BT9.out hr)
   have HKU:=Lib.hid (HK9.out.below hr)
   have RU:=Lib.hid ((RS.out.grownB' HG9.out ORD.out).below hr)
   clear hr
   go_simp
   refine hK _ _ ?_
   clear hK K
   go_wp2_with fail
   go_meet
   exact ⟨gb,_,_,L2,rfl,rfl,Lib.hid ⟨HKU.out,RU.out,RU.out.hi,.inl ORD.out,NL.out,G0.out,Nat.le_refl _⟩,Lib.hid BU.out⟩
 case rest =>
  obtain ⟨g2,lo2,hi2,L2,rfl,rfl,SW,X5⟩:=hcut
  have BWc:=Lib.hid (bl_trans BW.out X5.out)
  have NAc:=Lib.hid (NA.out.below X5.out)
  have NCc:=Lib.hid (NC.out.below X5.out)
  clear NA NC
  obtain ⟨q0,-⟩:=NAc.out.cell 0 _ rfl;obtain ⟨q1,-⟩:=NAc.out.cell 1 _ rfl;obtain ⟨q2,-⟩:=NAc.out.cell 2 _ rfl;obtain ⟨q3,-⟩:=NAc.out.cell 3 _ rfl;obtain ⟨q4,-⟩:=NAc.out.cell 4 _ rfl;obtain ⟨q5,-⟩:=NAc.out.cell 5 _ rfl;obtain ⟨q6,-⟩:=NAc.out.cell 6 _ rfl;obtain ⟨q7,-⟩:=NAc.out.cell 7 _ rfl;obtain ⟨q8,-⟩:=NAc.out.cell 8 _ rfl
  go_upto_region 7 with (go_at_call 56;refine (KT.out _ BWc.out).mono ?_;rintro e w6 ⟨L3,rfl,ho,hb⟩;have O6:=Lib.hid ho;have X6:=Lib.hid hb;clear ho hb)
  obtain ⟨gx,egx⟩ : ∃ g,g = w6.heap.size:=⟨_,rfl⟩
  obtain ⟨w7,e7⟩ : ∃ W,W = w6.alloc (.cells ([.slice L3.a1 b.st.length L3.c1,.slice L3.a2 b.bt.length L3.c2,.slice L3.a3 b.pd.length L3.c3,.slice L3.a4 b.fo.length L3.c4,.slice L3.a5 b.ac.length L3.c5,.int .i64 b.tu,.int .i64 b.un,.int .i64 b.ra,.int .i64 b.li] : List Value).toArray 27):=⟨_,rfl⟩
  have X7 : Hid (Below w6.heap.size w6 w7):=by rw [e7];exact Lib.hid (bl_alloc (bl_refl _) _)
  have NX : Hid (Blk w7 gx 27 [.slice L3.a1 b.st.length L3.c1,.slice L3.a2 b.bt.length L3.c2,.slice L3.a3 b.pd.length L3.c3,.slice L3.a4 b.fo.length L3.c4,.slice L3.a5 b.ac.length L3.c5,.int .i64 b.tu,.int .i64 b.un,.int .i64 b.ra,.int .i64 b.li]):=by rw [e7,egx];exact Lib.hid (blk_new _ _ _)
  have HI3 : Hid (Hi5 L3 gx):=by rw [egx];exact Lib.hid O6.out.hi
  have gx7 : Hid (gx ≤ w7.heap.size):=Lib.hid (Nat.le_of_lt NX.out.lt)
  have lo3 : Hid (wc.heap.size ≤ gx):=by rw [egx];exact Lib.hid X6.out.size
  simp only [List.toArray] at e7
  rw [← e7,← egx]
  clear e7 egx q0 q1 q2 q3 q4 q5 q6 q7 q8
  have X67:=Lib.hid (bl_trans X6.out X7.out)
  have O3:=Lib.hid (O6.out.below X7.out)
  have BW7:=Lib.hid (bl_trans BWc.out X67.out)
  have NA:=Lib.hid (NAc.out.below X67.out)
  have NC:=Lib.hid (NCc.out.below X67.out)
  have SWa:=Lib.hid (SW.out.below X67.out)
  have hwc : Hid (w.heap.size + 1 < wc.heap.size):=Lib.hid NCc.out.lt
  have hw2 : Hid (hi2 ≤ wc.heap.size ∧ g2 < wc.heap.size):=Lib.hid ⟨SW.out.hle,SW.out.blk.lt⟩
  clear SW O6 X6 X7 NAc NCc BWc BW X5 X67
  have SW:=SWa
  clear SWa
  go_cut [9,10] (fun s9 s10 wx=>∃ (gb lo hi : Nat) (L2 : At5),s9 = .pointer (some ⟨gb,0,none⟩) ∧ s10 = .int .i64 ky ∧ Hid (St w7.heap.size wx gb lo hi L2 r) ∧ Hid (Below w7.heap.size w7 wx))
  case first =>
   refine wp_region_W (last:=9) (k:=9) hmx rfl (fun HC0=>?_)
   refine wpAnyR_takeL (i:=0) (kw:=5) (v:=.agg #[.slice L3.a1 b.st.length L3.c1,.slice L3.a2 b.bt.length L3.c2,.slice L3.a3 b.pd.length L3.c3,.slice L3.a4 b.fo.length L3.c4,.slice L3.a5 b.ac.length L3.c5,.int .i64 b.tu,.int .i64 b.un,.int .i64 b.ra,.int .i64 b.li]) (fun _=>bl_refl _) (fun p q=>bl_trans p q) rfl rfl (by kernel_rfl) (by kernel_rfl) (by kernel_rfl) (by kernel_rfl) (fun _ _ _ h=>h) HC0 (Or.inl ⟨by kernel_rfl,fun W' hI=>?_⟩) (fun HC1=>?_)
   ·have hv:=(NX.out).below hI
    obtain ⟨z0,_⟩:=hv.cell 0 _ rfl;obtain ⟨z1,_⟩:=hv.cell 1 _ rfl;obtain ⟨z2,_⟩:=hv.cell 2 _ rfl;obtain ⟨z3,_⟩:=hv.cell 3 _ rfl;obtain ⟨z4,_⟩:=hv.cell 4 _ rfl;obtain ⟨z5,_⟩:=hv.cell 5 _ rfl;obtain ⟨z6,_⟩:=hv.cell 6 _ rfl;obtain ⟨z7,_⟩:=hv.cell 7 _ rfl;obtain ⟨z8,_⟩:=hv.cell 8 _ rfl
    exact .inl (by go_simp)
   refine wpAnyR_takeL (i:=1) (kw:=5) (v:=.agg #[.int .i64 kk,.int .i64 xx]) (fun _=>bl_refl _) (fun p q=>bl_trans p q) rfl rfl (by kernel_rfl) (by kernel_rfl) (by kernel_rfl) (by kernel_rfl) (fun _ _ _ h=>h) HC1 (Or.inl ⟨by kernel_rfl,fun W' hI=>?_⟩) (fun HC2=>?_)
   ·have hv:=(NC.out).below hI
    obtain ⟨z0,_⟩:=hv.cell 0 _ rfl
    obtain ⟨z1,_⟩:=hv.cell 1 _ rfl
    exact .inl (by go_simp)
   refine wpAnyR_takeL (i:=2) (kw:=4) (v:=.agg #[.int .i64 kk,.int .i64 xx]) (fun _=>bl_refl _) (fun p q=>bl_trans p q) rfl rfl (by kernel_rfl) (by kernel_rfl) (by kernel_rfl) (by kernel_rfl) (fun _ _ _ h=>h) HC2 (Or.inl ⟨by kernel_rfl,fun W' hI=>?_⟩) (fun HC3=>?_)
   ·exact .inr ⟨57,#[.agg #[.int .i64 kk,.int .i64 xx]],by go_simp,KA.out W'⟩
   refine wpAnyR_twoU HC3 (i:=3) (j:=7) (by kernel_rfl) rfl rfl (by kernel_rfl) (by kernel_rfl) (fun _ hr=>bl_drewT hr) (fun wa1 hr K hK=>?_) (fun wa1 hr K hK=>?_)
   ·have BA:=Lib.hid (bl_drewT hr)
    clear hr
    go_simp
    go_wp2_with (go_at_call 27;refine (K2.out L3 wa1 (O3.out.rd.below BA.out)).mono ?_;rintro e wb1 ⟨L2,rfl,ho,hb⟩;have RB:=Lib.hid ho;have BB1:=Lib.hid (bl_trans BA.out hb);have NL:=Lib.hid BA.out.size;clear ho hb)
    intro HC4
    refine wpAnyR_takeL (i:=4) (kw:=3) (v:=.tuple #[.agg #[.slice L2.a1 r.st.length L2.c1,.slice L2.a2 r.bt.length L2.c2,.slice L2.a3 r.pd.length L2.c3,.slice L2.a4 r.fo.length L2.c4,.slice L2.a5 r.ac.length L2.c5,.int .i64 r.tu,.int .i64 r.un,.int .i64 r.ra,.int .i64 r.li],.int .i64 ky]) (fun _=>bl_refl _) (fun p q=>bl_trans p q) rfl rfl (by kernel_rfl) (by kernel_rfl) (by kernel_rfl) (by kernel_rfl) (fun _ _ _ h=>h) HC4 (Or.inl ⟨by kernel_rfl,fun W' hI=>?_⟩) (fun HC5=>?_)
    ·exact .inl (by go_simp)
    refine wpAnyR_takeL (i:=5) (kw:=2) (v:=.agg #[.slice L2.a1 r.st.length L2.c1,.slice L2.a2 r.bt.length L2.c2,.slice L2.a3 r.pd.length L2.c3,.slice L2.a4 r.fo.length L2.c4,.slice L2.a5 r.ac.length L2.c5,.int .i64 r.tu,.int .i64 r.un,.int .i64 r.ra,.int .i64 r.li]) (fun _=>bl_refl _) (fun p q=>bl_trans p q) rfl rfl (by kernel_rfl) (by kernel_rfl) (by kernel_rfl) (by kernel_rfl) (fun _ _ _ h=>h) HC5 (Or.inl ⟨by kernel_rfl,fun W' hI=>?_⟩) (fun HC6=>?_)
    ·exact .inl (by go_simp)
    refine wpAnyR_takeL (i:=6) (kw:=2) (v:=.int .i64 ky) (fun _=>bl_refl _) (fun p q=>bl_trans p q) rfl rfl (by kernel_rfl) (by kernel_rfl) (by kernel_rfl) (by kernel_rfl) (fun _ _ _ h=>h) HC6 (Or.inl ⟨by kernel_rfl,fun W' hI=>?_⟩) (fun HC7=>?_)
    ·exact .inl (by go_simp)
    refine wpAnyR_oneL HC7 (i:=7) (by kernel_rfl) rfl (by kernel_rfl) (fun wa2 hr=>⟨bl_trans BB1.out hr,?_⟩)
    intro K hK
    have BA:=Lib.hid (bl_trans BB1.out hr)
    have RBa:=Lib.hid (RB.out.below (hr))
    clear RB
    have RB:=RBa
    clear RBa
    clear hr
    go_simp
    refine hK _ _ (fun HC8=>?_)
    clear hK K
    obtain ⟨gb,egb⟩ : ∃ g,g = wa2.heap.size:=⟨_,rfl⟩
    obtain ⟨wb2,ewb⟩ : ∃ W,W = wa2.alloc (.cells ([.slice none 0 0,.slice none 0 0,.slice none 0 0,.slice none 0 0,.slice none 0 0,.int .i64 0,.int .i64 0,.int .i64 0,.int .i64 0] : List Value).toArray 27):=⟨_,rfl⟩
    have GB : Hid (Blk wb2 gb 27 [.slice none 0 0,.slice none 0 0,.slice none 0 0,.slice none 0 0,.slice none 0 0,.int .i64 0,.int .i64 0,.int .i64 0,.int .i64 0]):=by rw [ewb,egb];exact Lib.hid (blk_new wa2 _ _)
    have BB2 : Hid (Below w7.heap.size w7 wb2):=by rw [ewb];exact Lib.hid (bl_alloc BA.out _)
    have G0 : Hid (w7.heap.size ≤ gb):=by rw [egb];exact Lib.hid BA.out.size
    have RBa : Hid (Row5 wb2 wa1.heap.size L2 r):=by rw [ewb];exact Lib.hid (RB.out.below (bl_alloc (bl_refl _) _))
    have HIR : Hid (Hi5 L2 gb):=by rw [egb];exact Lib.hid RB.out.hi
    clear RB
    have RB:=RBa
    clear RBa
    simp only [List.toArray] at ewb
    rw [← ewb,← egb]
    clear egb ewb
    refine wpAnyR_oneL HC8 (i:=8) (by kernel_rfl) rfl (by kernel_rfl) (fun ws hr=>⟨bl_trans BB2.out hr,?_⟩)
    intro K hK
    have BS:=Lib.hid (bl_trans BB2.out hr)
    have GS:=Lib.hid (GB.out.below hr)
    have RS:=Lib.hid (RB.out.below hr)
    clear hr
    try simp only [Act.put,List.setIfInBounds_toArray,List.set_cons_succ,List.set_cons_zero]
    refine wp_store_blk 27 9 (.tmp 9) (.tmp 36) rfl iB gb rfl [.slice L2.a1 r.st.length L2.c1,.slice L2.a2 r.bt.length L2.c2,.slice L2.a3 r.pd.length L2.c3,.slice L2.a4 r.fo.length L2.c4,.slice L2.a5 r.ac.length L2.c5,.int .i64 r.tu,.int .i64 r.un,.int .i64 r.ra,.int .i64 r.li] rfl rfl (by simp [Value.oneCell']) _ GS.out rfl ?_
    intro wt k9 g9
    refine hK _ _ (fun HX1=>?_)
    clear hK K
    have BT9:=Lib.hid (below_grown1 BS.out g9 G0.out)
    have HK9:=Lib.hid k9
    have HG9:=Lib.hid g9
    clear k9 g9
    refine wpAnyR_lastL (by kernel_rfl) (by kernel_rfl) rfl (by kernel_rfl) (fun wu hr=>⟨bl_trans BT9.out hr,?_⟩)
    intro K hK
    have BU:=Lib.hid (bl_trans BT9.out hr)
    have HKU:=Lib.hid (HK9.out.below hr)
    have RU:=Lib.hid ((RS.out.grownA HG9.out HIR.out).below hr)
    clear hr
    go_simp
    refine hK _ _ ?_
    clear hK K
    go_wp2_with fail
    go_meet
    exact ⟨gb,_,_,L2,rfl,rfl,Lib.hid ⟨HKU.out,RU.out,HIR.out,.inr (Nat.le_refl _),NL.out,G0.out,Nat.le_of_lt HKU.out.lt⟩,Lib.hid BU.out⟩
   ·have BA:=Lib.hid (bl_drewT hr)
    clear hr
    go_simp
    refine hK _ _ (fun HC9=>?_)
    clear hK K
    obtain ⟨gb,egb⟩ : ∃ g,g = wa1.heap.size:=⟨_,rfl⟩
    obtain ⟨wb1,ewb⟩ : ∃ W,W = wa1.alloc (.cells ([.slice none 0 0,.slice none 0 0,.slice none 0 0,.slice none 0 0,.slice none 0 0,.int .i64 0,.int .i64 0,.int .i64 0,.int .i64 0] : List Value).toArray 27):=⟨_,rfl⟩
    have GB : Hid (Blk wb1 gb 27 [.slice none 0 0,.slice none 0 0,.slice none 0 0,.slice none 0 0,.slice none 0 0,.int .i64 0,.int .i64 0,.int .i64 0,.int .i64 0]):=by rw [ewb,egb];exact Lib.hid (blk_new wa1 _ _)
    have BB1 : Hid (Below w7.heap.size w7 wb1):=by rw [ewb];exact Lib.hid (bl_alloc BA.out _)
    have G0 : Hid (w7.heap.size ≤ gb):=by rw [egb];exact Lib.hid BA.out.size
    simp only [List.toArray] at ewb
    rw [← ewb,← egb]
    clear egb ewb
    refine wpAnyR_oneL HC9 (i:=3) (by kernel_rfl) rfl (by kernel_rfl) (fun wa2 hr=>⟨bl_trans BB1.out hr,?_⟩)
    intro K hK
    have BA:=Lib.hid (bl_trans BB1.out hr)
    have GBa:=Lib.hid (GB.out.below (hr))
    clear GB
    have GB:=GBa
    clear GBa
    clear hr
    go_simp
    go_wp2_with (go_at_call 27;refine (K2.out L3 wa2 (O3.out.rd.below BA.out)).mono ?_;rintro e wb2 ⟨L2,rfl,ho,hb⟩;have RB:=Lib.hid ho;have BB2:=Lib.hid (bl_trans BA.out hb);have NL:=Lib.hid BA.out.size;have GBL:=Lib.hid GB.out.lt;have GBa:=Lib.hid (GB.out.below hb);clear GB;have GB:=GBa;clear GBa;clear ho hb)
    intro HC10
    have ORD : Hid (gb < wa2.heap.size):=GBL
    refine wpAnyR_takeL (i:=4) (kw:=3) (v:=.tuple #[.agg #[.slice L2.a1 r.st.length L2.c1,.slice L2.a2 r.bt.length L2.c2,.slice L2.a3 r.pd.length L2.c3,.slice L2.a4 r.fo.length L2.c4,.slice L2.a5 r.ac.length L2.c5,.int .i64 r.tu,.int .i64 r.un,.int .i64 r.ra,.int .i64 r.li],.int .i64 ky]) (fun _=>bl_refl _) (fun p q=>bl_trans p q) rfl rfl (by kernel_rfl) (by kernel_rfl) (by kernel_rfl) (by kernel_rfl) (fun _ _ _ h=>h) HC10 (Or.inl ⟨by kernel_rfl,fun W' hI=>?_⟩) (fun HC11=>?_)
    ·exact .inl (by go_simp)
    refine wpAnyR_takeL (i:=5) (kw:=2) (v:=.agg #[.slice L2.a1 r.st.length L2.c1,.slice L2.a2 r.bt.length L2.c2,.slice L2.a3 r.pd.length L2.c3,.slice L2.a4 r.fo.length L2.c4,.slice L2.a5 r.ac.length L2.c5,.int .i64 r.tu,.int .i64 r.un,.int .i64 r.ra,.int .i64 r.li]) (fun _=>bl_refl _) (fun p q=>bl_trans p q) rfl rfl (by kernel_rfl) (by kernel_rfl) (by kernel_rfl) (by kernel_rfl) (fun _ _ _ h=>h) HC11 (Or.inl ⟨by kernel_rfl,fun W' hI=>?_⟩) (fun HC12=>?_)
    ·exact .inl (by go_simp)
    refine wpAnyR_takeL (i:=6) (kw:=2) (v:=.int .i64 ky) (fun _=>bl_refl _) (fun p q=>bl_trans p q) rfl rfl (by kernel_rfl) (by kernel_rfl) (by kernel_rfl) (by kernel_rfl) (fun _ _ _ h=>h) HC12 (Or.inl ⟨by kernel_rfl,fun W' hI=>?_⟩) (fun HC13=>?_)
    ·exact .inl (by go_simp)
    refine wpAnyR_oneL HC13 (i:=8) (by kernel_rfl) rfl (by kernel_rfl) (fun ws hr=>⟨bl_trans BB2.out hr,?_⟩)
    intro K hK
    have BS:=Lib.hid (bl_trans BB2.out hr)
    have GS:=Lib.hid (GB.out.below hr)
    have RS:=Lib.hid (RB.out.below hr)
    clear hr
    try simp only [Act.put,List.setIfInBounds_toArray,List.set_cons_succ,List.set_cons_zero]
    refine wp_store_blk 27 9 (.tmp 9) (.tmp 36) rfl iB gb rfl [.slice L2.a1 r.st.length L2.c1,.slice L2.a2 r.bt.length L2.c2,.slice L2.a3 r.pd.length L2.c3,.slice L2.a4 r.fo.length L2.c4,.slice L2.a5 r.ac.length L2.c5,.int .i64 r.tu,.int .i64 r.un,.int .i64 r.ra,.int .i64 r.li] rfl rfl (by simp [Value.oneCell']) _ GS.out rfl ?_
    intro wt k9 g9
    refine hK _ _ (fun HX1=>?_)
    clear hK K
    have BT9:=Lib.hid (below_grown1 BS.out g9 G0.out)
    have HK9:=Lib.hid k9
    have HG9:=Lib.hid g9
    clear k9 g9
    refine wpAnyR_lastL (by kernel_rfl) (by kernel_rfl) rfl (by kernel_rfl) (fun wu hr=>⟨bl_trans BT9.out hr,?_⟩)
    intro K hK
    have BU:=Lib.hid (bl_trans BT9.out hr)
    have HKU:=Lib.hid (HK9.out.below hr)
    have RU:=Lib.hid ((RS.out.grownB' HG9.out ORD.out).below hr)
    clear hr
    go_simp
    refine hK _ _ ?_
    clear hK K
    go_wp2_with fail
    go_meet
    exact ⟨gb,_,_,L2,rfl,rfl,Lib.hid ⟨HKU.out,RU.out,RU.out.hi,.inl ORD.out,NL.out,G0.out,Nat.le_refl _⟩,Lib.hid BU.out⟩
  case rest =>
   obtain ⟨g4,lo4,hi4,L4,rfl,rfl,SG,X7⟩:=hcut
   have BW8:=Lib.hid (bl_trans BW7.out X7.out)
   have NA8:=Lib.hid (NA.out.below X7.out)
   have NC8:=Lib.hid (NC.out.below X7.out)
   have SW8:=Lib.hid (SW.out.below X7.out)
   have NX8:=Lib.hid (NX.out.below X7.out)
   have O38:=Lib.hid (O3.out.below X7.out)
   clear NA NC SW NX O3 BW7 X7
   have SWb:=SW8.out.blk
   have SGb:=SG.out.blk
   obtain ⟨a0,-⟩:=SWb.cell 0 _ rfl;obtain ⟨a1,-⟩:=SWb.cell 1 _ rfl;obtain ⟨a2,-⟩:=SWb.cell 2 _ rfl;obtain ⟨a3,-⟩:=SWb.cell 3 _ rfl;obtain ⟨a4,-⟩:=SWb.cell 4 _ rfl;obtain ⟨a5,-⟩:=SWb.cell 5 _ rfl;obtain ⟨a6,-⟩:=SWb.cell 6 _ rfl;obtain ⟨a7,-⟩:=SWb.cell 7 _ rfl;obtain ⟨a8,-⟩:=SWb.cell 8 _ rfl
   obtain ⟨g0,-⟩:=SGb.cell 0 _ rfl;obtain ⟨g1,-⟩:=SGb.cell 1 _ rfl;obtain ⟨g2x,-⟩:=SGb.cell 2 _ rfl;obtain ⟨g3,-⟩:=SGb.cell 3 _ rfl;obtain ⟨g4x,-⟩:=SGb.cell 4 _ rfl;obtain ⟨g5,-⟩:=SGb.cell 5 _ rfl;obtain ⟨g6,-⟩:=SGb.cell 6 _ rfl;obtain ⟨g7,-⟩:=SGb.cell 7 _ rfl;obtain ⟨g8,-⟩:=SGb.cell 8 _ rfl
   clear SWb SGb
   go_wp2_with (go_at_call 58;refine (eqBetting_same _ _ r _ SG.out.rows.rd SW8.out.rows.rd mr).mono ?_;rintro e w9 ⟨rfl,hb⟩;have NA:=Lib.hid (NA8.out.below hb);have NC:=Lib.hid (NC8.out.below hb);have SWn:=Lib.hid (SW8.out.below hb);have SGn:=Lib.hid (SG.out.below hb);have NX:=Lib.hid (NX8.out.below hb);have O3:=Lib.hid (O38.out.below hb);have BW9:=Lib.hid (bl_trans BW8.out hb);clear hb)
   clear NA8 NC8 SW8 SG NX8 O38 BW8 a0 a1 a2 a3 a4 a5 a6 a7 a8 g0 g1 g2x g3 g4x g5 g6 g7 g8
   refine wp_region_W (last:=4) (k:=4) hmx rfl (fun HC0=>?_)
   refine wpAnyR_takeL (i:=0) (kw:=3) (v:=.agg #[.slice L3.a1 b.st.length L3.c1,.slice L3.a2 b.bt.length L3.c2,.slice L3.a3 b.pd.length L3.c3,.slice L3.a4 b.fo.length L3.c4,.slice L3.a5 b.ac.length L3.c5,.int .i64 b.tu,.int .i64 b.un,.int .i64 b.ra,.int .i64 b.li]) (fun _=>bl_refl _) (fun p q=>bl_trans p q) rfl rfl (by kernel_rfl) (by kernel_rfl) (by kernel_rfl) (by kernel_rfl) (fun _ _ _ h=>h) HC0 (Or.inl ⟨by kernel_rfl,fun W' hI=>?_⟩) (fun HC1=>?_)
   ·have hv:=(NX.out).below hI
    obtain ⟨z0,-⟩:=hv.cell 0 _ rfl;obtain ⟨z1,-⟩:=hv.cell 1 _ rfl;obtain ⟨z2,-⟩:=hv.cell 2 _ rfl;obtain ⟨z3,-⟩:=hv.cell 3 _ rfl;obtain ⟨z4,-⟩:=hv.cell 4 _ rfl;obtain ⟨z5,-⟩:=hv.cell 5 _ rfl;obtain ⟨z6,-⟩:=hv.cell 6 _ rfl;obtain ⟨z7,-⟩:=hv.cell 7 _ rfl;obtain ⟨z8,-⟩:=hv.cell 8 _ rfl
    exact .inl (by go_simp)
   refine wpAnyR_takeL (i:=1) (kw:=4) (v:=.agg #[.slice L.a1 b.st.length L.c1,.slice L.a2 b.bt.length L.c2,.slice L.a3 b.pd.length L.c3,.slice L.a4 b.fo.length L.c4,.slice L.a5 b.ac.length L.c5,.int .i64 b.tu,.int .i64 b.un,.int .i64 b.ra,.int .i64 b.li]) (fun _=>bl_refl _) (fun p q=>bl_trans p q) rfl rfl (by kernel_rfl) (by kernel_rfl) (by kernel_rfl) (by kernel_rfl) (fun _ _ _ h=>h) HC1 (Or.inl ⟨by kernel_rfl,fun W' hI=>?_⟩) (fun HC2=>?_)
   ·have hv:=(NA.out).below hI
    obtain ⟨z0,-⟩:=hv.cell 0 _ rfl;obtain ⟨z1,-⟩:=hv.cell 1 _ rfl;obtain ⟨z2,-⟩:=hv.cell 2 _ rfl;obtain ⟨z3,-⟩:=hv.cell 3 _ rfl;obtain ⟨z4,-⟩:=hv.cell 4 _ rfl;obtain ⟨z5,-⟩:=hv.cell 5 _ rfl;obtain ⟨z6,-⟩:=hv.cell 6 _ rfl;obtain ⟨z7,-⟩:=hv.cell 7 _ rfl;obtain ⟨z8,-⟩:=hv.cell 8 _ rfl
    exact .inl (by go_simp)
   refine wpAnyR_oneL HC2 (i:=2) (by kernel_rfl) rfl (by kernel_rfl) (fun wa hr=>⟨bl_drewT hr,?_⟩)
   intro K hK
   have XA:=Lib.hid (bl_drewT hr)
   clear hr
   go_simp
   go_wp2_with (go_at_call 56;refine (KT.out _ (bl_trans BW9.out XA.out)).mono ?_;rintro e wb ⟨LE,rfl,ho,hb⟩;have OE:=Lib.hid ho.rd;have XB:=Lib.hid (bl_trans XA.out hb);clear ho hb)
   intro HC3
   refine wpAnyR_oneL HC3 (i:=3) (by kernel_rfl) rfl (by kernel_rfl) (fun wc2 hr=>⟨bl_trans XB.out hr,?_⟩)
   intro K hK
   have XC:=Lib.hid (bl_trans XB.out hr)
   have OEc:=Lib.hid (OE.out.below hr)
   clear hr
   go_simp
   go_wp2_with (go_at_call 58;refine (eqBetting_same _ _ b _ (O3.out.rd.below XC.out) OEc.out m).mono ?_;rintro e wd2 ⟨rfl,hb⟩;have XD:=Lib.hid (bl_trans XC.out hb);clear hb)
   intro HC4
   refine wpAnyR_lastL (by kernel_rfl) (by kernel_rfl) rfl (by kernel_rfl) (fun we hr=>⟨bl_trans XD.out hr,?_⟩)
   intro K hK
   have XE:=Lib.hid (bl_trans XD.out hr)
   clear hr XA XB XC XD OE OEc
   go_simp
   refine hK _ _ ?_
   clear hK K
   have NAe:=Lib.hid (NA.out.below XE.out)
   have NCe:=Lib.hid (NC.out.below XE.out)
   have SWe:=Lib.hid (SWn.out.below XE.out)
   have SGe:=Lib.hid (SGn.out.below XE.out)
   have NXe:=Lib.hid (NX.out.below XE.out)
   have O3e:=Lib.hid (O3.out.below XE.out)
   have BWe:=Lib.hid (bl_trans BW9.out XE.out)
   clear NA NC SWn SGn NX O3 BW9 XE
   have NXb:=NXe.out
   obtain ⟨x0,-⟩:=NXb.cell 0 _ rfl;obtain ⟨x1,-⟩:=NXb.cell 1 _ rfl;obtain ⟨x2,-⟩:=NXb.cell 2 _ rfl;obtain ⟨x3,-⟩:=NXb.cell 3 _ rfl;obtain ⟨x4,-⟩:=NXb.cell 4 _ rfl;obtain ⟨x5,-⟩:=NXb.cell 5 _ rfl;obtain ⟨x6,-⟩:=NXb.cell 6 _ rfl;obtain ⟨x7,-⟩:=NXb.cell 7 _ rfl;obtain ⟨x8,-⟩:=NXb.cell 8 _ rfl
   clear NXb
   go_upto_region 24 with (first
    | (go_at_call 59;(with_reducible refine (KM3.out _ _ _ _ O3e.out HI3.out).mono ?_);rintro e wf ⟨rfl,ho,hs⟩;have SWf:=Lib.hid (SWe.out.spanA hs hw2.out.1 hw2.out.2);have SGf:=Lib.hid (SGe.out.span hs gx7.out);have NAf:=Lib.hid (NAe.out.span hs (.inl (by have:=hwc.out;omega)));have NCf:=Lib.hid (NCe.out.span hs (.inl (by have:=hwc.out;omega)));have BWf:=Lib.hid (bl_span BWe.out hs (by have:=hwc.out;omega));clear ho hs NAe NCe SWe SGe NXe O3e BWe;have SWb:=SWf.out.blk;have SGb:=SGf.out.blk;obtain ⟨a0,-⟩:=SWb.cell 0 _ rfl;obtain ⟨a1,-⟩:=SWb.cell 1 _ rfl;obtain ⟨a2,-⟩:=SWb.cell 2 _ rfl;obtain ⟨a3,-⟩:=SWb.cell 3 _ rfl;obtain ⟨a4,-⟩:=SWb.cell 4 _ rfl;obtain ⟨a5,-⟩:=SWb.cell 5 _ rfl;obtain ⟨a6,-⟩:=SWb.cell 6 _ rfl;obtain ⟨a7,-⟩:=SWb.cell 7 _ rfl;obtain ⟨a8,-⟩:=SWb.cell 8 _ rfl;obtain ⟨g0,-⟩:=SGb.cell 0 _ rfl;obtain ⟨g1,-⟩:=SGb.cell 1 _ rfl;obtain ⟨g2x,-⟩:=SGb.cell 2 _ rfl;obtain ⟨g3,-⟩:=SGb.cell 3 _ rfl;obtain ⟨g4x,-⟩:=SGb.cell 4 _ rfl;obtain ⟨g5,-⟩:=SGb.cell 5 _ rfl;obtain ⟨g6,-⟩:=SGb.cell 6 _ rfl;obtain ⟨g7,-⟩:=SGb.cell 7 _ rfl;obtain ⟨g8,-⟩:=SGb.cell 8 _ rfl;clear SWb SGb)
    | (go_at_call 58;refine (eqBetting_same L4 L2 r _ SGf.out.rows.rd SWf.out.rows.rd mr).mono ?_;rintro e wg ⟨rfl,hb⟩;have NAg:=Lib.hid (NAf.out.below hb);have NCg:=Lib.hid (NCf.out.below hb);have SWg:=Lib.hid (SWf.out.below hb);have SGg:=Lib.hid (SGf.out.below hb);have BWg:=Lib.hid (bl_trans BWf.out hb);clear hb NAf NCf SWf SGf BWf;have SGc:=SGg.out.blk;obtain ⟨h0,-⟩:=SGc.cell 0 _ rfl;obtain ⟨h1,-⟩:=SGc.cell 1 _ rfl;obtain ⟨h2,-⟩:=SGc.cell 2 _ rfl;obtain ⟨h3,-⟩:=SGc.cell 3 _ rfl;obtain ⟨h4,-⟩:=SGc.cell 4 _ rfl;obtain ⟨h5,-⟩:=SGc.cell 5 _ rfl;obtain ⟨h6,-⟩:=SGc.cell 6 _ rfl;obtain ⟨h7,-⟩:=SGc.cell 7 _ rfl;obtain ⟨h8,-⟩:=SGc.cell 8 _ rfl;clear SGc)
    | (go_at_call 59;(with_reducible refine (KM4.out _ _ _ _ SGg.out.rows SGg.out.hi5).mono ?_);rintro e wh ⟨rfl,ho,hs⟩;have MG:=Lib.hid ho;have NG:=Lib.hid (SGg.out.blk.span hs SGg.out.ap);have hlg:=SGg.out.lo0;have SWh:=Lib.hid (SWg.out.spanA hs (by have:=hw2.out;have:=lo3.out;have:=gx7.out;omega) (by have:=hw2.out;have:=lo3.out;have:=gx7.out;omega));have NAh:=Lib.hid (NAg.out.span hs (.inl (by have:=hwc.out;have:=lo3.out;have:=gx7.out;omega)));have NCh:=Lib.hid (NCg.out.span hs (.inl (by have:=hwc.out;have:=lo3.out;have:=gx7.out;omega)));have BWh:=Lib.hid (bl_span BWg.out hs (by have:=hwc.out;have:=lo3.out;have:=gx7.out;omega));clear ho hs hlg NAg NCg SWg SGg BWg;have NGc:=NG.out;obtain ⟨j0,-⟩:=NGc.cell 0 _ rfl;obtain ⟨j1,-⟩:=NGc.cell 1 _ rfl;obtain ⟨j2,-⟩:=NGc.cell 2 _ rfl;obtain ⟨j3,-⟩:=NGc.cell 3 _ rfl;obtain ⟨j4,-⟩:=NGc.cell 4 _ rfl;obtain ⟨j5,-⟩:=NGc.cell 5 _ rfl;obtain ⟨j6,-⟩:=NGc.cell 6 _ rfl;obtain ⟨j7,-⟩:=NGc.cell 7 _ rfl;obtain ⟨j8,-⟩:=NGc.cell 8 _ rfl;clear NGc)
    | (go_at_call 60;(with_reducible refine (KH4.out _ _ MG.out.rd).mono ?_);rintro e wi ⟨rfl,hb⟩;have MGi:=Lib.hid (MG.out.below hb);have NGi:=Lib.hid (NG.out.below hb);have SWi:=Lib.hid (SWh.out.below hb);have NAi:=Lib.hid (NAh.out.below hb);have NCi:=Lib.hid (NCh.out.below hb);have BWi:=Lib.hid (bl_trans BWh.out hb);clear hb MG NG SWh NAh NCh BWh))
   have NA:=NAi
   have NC:=NCi
   have BW:=BWi
   clear NAi NCi BWi HI3 lo3 gx7
   go_cut [14,15] (fun s14 s15 wx=>∃ (gb lo hi : Nat) (L2 : At5),s14 = .pointer (some ⟨gb,0,none⟩) ∧ s15 = .int .i64 ky ∧ Hid (St wi.heap.size wx gb lo hi L2 r) ∧ Hid (Below wi.heap.size wi wx))
   case first =>
    refine wp_region_W (last:=10) (k:=10) hmx rfl (fun HC0=>?_)
    refine wpAnyR_takeL (i:=0) (kw:=5) (v:=.agg #[.slice L.a1 b.st.length L.c1,.slice L.a2 b.bt.length L.c2,.slice L.a3 b.pd.length L.c3,.slice L.a4 b.fo.length L.c4,.slice L.a5 b.ac.length L.c5,.int .i64 b.tu,.int .i64 b.un,.int .i64 b.ra,.int .i64 b.li]) (fun _=>bl_refl _) (fun p q=>bl_trans p q) rfl rfl (by kernel_rfl) (by kernel_rfl) (by kernel_rfl) (by kernel_rfl) (fun _ _ _ h=>h) HC0 (Or.inl ⟨by kernel_rfl,fun W' hI=>?_⟩) (fun HC1=>?_)
    ·have hv:=(NA.out).below hI
     obtain ⟨z0,_⟩:=hv.cell 0 _ rfl;obtain ⟨z1,_⟩:=hv.cell 1 _ rfl;obtain ⟨z2,_⟩:=hv.cell 2 _ rfl;obtain ⟨z3,_⟩:=hv.cell 3 _ rfl;obtain ⟨z4,_⟩:=hv.cell 4 _ rfl;obtain ⟨z5,_⟩:=hv.cell 5 _ rfl;obtain ⟨z6,_⟩:=hv.cell 6 _ rfl;obtain ⟨z7,_⟩:=hv.cell 7 _ rfl;obtain ⟨z8,_⟩:=hv.cell 8 _ rfl
     exact .inl (by go_simp)
    refine wpAnyR_takeL (i:=2) (kw:=5) (v:=.agg #[.int .i64 kk,.int .i64 xx]) (fun _=>bl_refl _) (fun p q=>bl_trans p q) rfl rfl (by kernel_rfl) (by kernel_rfl) (by kernel_rfl) (by kernel_rfl) (fun _ _ _ h=>h) HC1 (Or.inl ⟨by kernel_rfl,fun W' hI=>?_⟩) (fun HC2=>?_)
    ·have hv:=(NC.out).below hI
     obtain ⟨z0,_⟩:=hv.cell 0 _ rfl
     obtain ⟨z1,_⟩:=hv.cell 1 _ rfl
     exact .inl (by go_simp)
    refine wpAnyR_twoU HC2 (i:=1) (j:=8) (by kernel_rfl) rfl rfl (by kernel_rfl) (by kernel_rfl) (fun _ hr=>bl_drewT hr) (fun wa1 hr K hK=>?_) (fun wa1 hr K hK=>?_)
    ·have BA:=Lib.hid (bl_drewT hr)
     clear hr
     go_simp
     go_wp2_with (go_at_call 56;refine (KT.out _ (bl_trans BW.out BA.out)).mono ?_;rintro e wb1 ⟨L1,rfl,ho,hb⟩;have O1:=Lib.hid ho.rd;have BB1:=Lib.hid (bl_trans BA.out hb);clear ho hb)
     intro HC3
     refine wpAnyR_takeL (i:=3) (kw:=4) (v:=.agg #[.int .i64 kk,.int .i64 xx]) (fun _=>bl_refl _) (fun p q=>bl_trans p q) rfl rfl (by kernel_rfl) (by kernel_rfl) (by kernel_rfl) (by kernel_rfl) (fun _ _ _ h=>h) HC3 (Or.inl ⟨by kernel_rfl,fun W' hI=>?_⟩) (fun HC4=>?_)
     ·exact .inr ⟨57,#[.agg #[.int .i64 kk,.int .i64 xx]],by go_simp,KA.out W'⟩
     refine wpAnyR_twoU HC4 (i:=4) (j:=8) (by kernel_rfl) rfl rfl (by kernel_rfl) (by kernel_rfl) (fun _ hr=>bl_trans BB1.out hr) (fun wa2 hr K hK=>?_) (fun wa2 hr K hK=>?_)
     ·have BA:=Lib.hid (bl_trans BB1.out hr)
      have O1a:=Lib.hid (O1.out.below (hr))
      clear O1
      have O1:=O1a
      clear O1a
      clear hr
      go_simp
      go_wp2_with (go_at_call 27;refine (K2.out L1 wa2 O1.out).mono ?_;rintro e wb2 ⟨L2,rfl,ho,hb⟩;have RB:=Lib.hid ho;have BB2:=Lib.hid (bl_trans BA.out hb);have NL:=Lib.hid BA.out.size;clear ho hb)
      intro HC5
      refine wpAnyR_takeL (i:=5) (kw:=3) (v:=.tuple #[.agg #[.slice L2.a1 r.st.length L2.c1,.slice L2.a2 r.bt.length L2.c2,.slice L2.a3 r.pd.length L2.c3,.slice L2.a4 r.fo.length L2.c4,.slice L2.a5 r.ac.length L2.c5,.int .i64 r.tu,.int .i64 r.un,.int .i64 r.ra,.int .i64 r.li],.int .i64 ky]) (fun _=>bl_refl _) (fun p q=>bl_trans p q) rfl rfl (by kernel_rfl) (by kernel_rfl) (by kernel_rfl) (by kernel_rfl) (fun _ _ _ h=>h) HC5 (Or.inl ⟨by kernel_rfl,fun W' hI=>?_⟩) (fun HC6=>?_)
      ·exact .inl (by go_simp)
      refine wpAnyR_takeL (i:=6) (kw:=2) (v:=.agg #[.slice L2.a1 r.st.length L2.c1,.slice L2.a2 r.bt.length L2.c2,.slice L2.a3 r.pd.length L2.c3,.slice L2.a4 r.fo.length L2.c4,.slice L2.a5 r.ac.length L2.c5,.int .i64 r.tu,.int .i64 r.un,.int .i64 r.ra,.int .i64 r.li]) (fun _=>bl_refl _) (fun p q=>bl_trans p q) rfl rfl (by kernel_rfl) (by kernel_rfl) (by kernel_rfl) (by kernel_rfl) (fun _ _ _ h=>h) HC6 (Or.inl ⟨by kernel_rfl,fun W' hI=>?_⟩) (fun HC7=>?_)
      ·exact .inl (by go_simp)
      refine wpAnyR_takeL (i:=7) (kw:=2) (v:=.int .i64 ky) (fun _=>bl_refl _) (fun p q=>bl_trans p q) rfl rfl (by kernel_rfl) (by kernel_rfl) (by kernel_rfl) (by kernel_rfl) (fun _ _ _ h=>h) HC7 (Or.inl ⟨by kernel_rfl,fun W' hI=>?_⟩) (fun HC8=>?_)
      ·exact .inl (by go_simp)
      refine wpAnyR_oneL HC8 (i:=8) (by kernel_rfl) rfl (by kernel_rfl) (fun wa3 hr=>⟨bl_trans BB2.out hr,?_⟩)
      intro K hK
      have BA:=Lib.hid (bl_trans BB2.out hr)
      have RBa:=Lib.hid (RB.out.below (hr))
      clear RB
      have RB:=RBa
      clear RBa
      clear hr
      go_simp
      refine hK _ _ (fun HC9=>?_)
      clear hK K
      obtain ⟨gb,egb⟩ : ∃ g,g = wa3.heap.size:=⟨_,rfl⟩
      obtain ⟨wb3,ewb⟩ : ∃ W,W = wa3.alloc (.cells ([.slice none 0 0,.slice none 0 0,.slice none 0 0,.slice none 0 0,.slice none 0 0,.int .i64 0,.int .i64 0,.int .i64 0,.int .i64 0] : List Value).toArray 27):=⟨_,rfl⟩
      have GB : Hid (Blk wb3 gb 27 [.slice none 0 0,.slice none 0 0,.slice none 0 0,.slice none 0 0,.slice none 0 0,.int .i64 0,.int .i64 0,.int .i64 0,.int .i64 0]):=by rw [ewb,egb];exact Lib.hid (blk_new wa3 _ _)
      have BB3 : Hid (Below wi.heap.size wi wb3):=by rw [ewb];exact Lib.hid (bl_alloc BA.out _)
      have G0 : Hid (wi.heap.size ≤ gb):=by rw [egb];exact Lib.hid BA.out.size
      have RBa : Hid (Row5 wb3 wa2.heap.size L2 r):=by rw [ewb];exact Lib.hid (RB.out.below (bl_alloc (bl_refl _) _))
      have HIR : Hid (Hi5 L2 gb):=by rw [egb];exact Lib.hid RB.out.hi
      clear RB
      have RB:=RBa
      clear RBa
      simp only [List.toArray] at ewb
      rw [← ewb,← egb]
      clear egb ewb
      refine wpAnyR_oneL HC9 (i:=9) (by kernel_rfl) rfl (by kernel_rfl) (fun ws hr=>⟨bl_trans BB3.out hr,?_⟩)
      intro K hK
      have BS:=Lib.hid (bl_trans BB3.out hr)
      have GS:=Lib.hid (GB.out.below hr)
      have RS:=Lib.hid (RB.out.below hr)
      clear hr
      try simp only [Act.put,List.setIfInBounds_toArray,List.set_cons_succ,List.set_cons_zero]
      refine wp_store_blk 27 9 (.tmp 14) (.tmp 85) rfl iB gb rfl [.slice L2.a1 r.st.length L2.c1,.slice L2.a2 r.bt.length L2.c2,.slice L2.a3 r.pd.length L2.c3,.slice L2.a4 r.fo.length L2.c4,.slice L2.a5 r.ac.length L2.c5,.int .i64 r.tu,.int .i64 r.un,.int .i64 r.ra,.int .i64 r.li] rfl rfl (by simp [Value.oneCell']) _ GS.out rfl ?_
      intro wt k9 g9
      refine hK _ _ (fun HX1=>?_)
      clear hK K
      have BT9:=Lib.hid (below_grown1 BS.out g9 G0.out)
      have HK9:=Lib.hid k9
      have HG9:=Lib.hid g9
      clear k9 g9
      refine wpAnyR_lastL (by kernel_rfl) (by kernel_rfl) rfl (by kernel_rfl) (fun wu hr=>⟨bl_trans BT9.out hr,?_⟩)
      intro K hK
      have BU:=Lib.hid (bl_trans BT9.out hr)
      have HKU:=Lib.hid (HK9.out.below hr)
      have RU:=Lib.hid ((RS.out.grownA HG9.out HIR.out).below hr)
      clear hr
      go_simp
      refine hK _ _ ?_
      clear hK K
      go_wp2_with fail
      go_meet
      exact ⟨gb,_,_,L2,rfl,rfl,Lib.hid ⟨HKU.out,RU.out,HIR.out,.inr (Nat.le_refl _),NL.out,G0.out,Nat.le_of_lt HKU.out.lt⟩,Lib.hid BU.out⟩
     ·have BA:=Lib.hid (bl_trans BB1.out hr)
      have O1a:=Lib.hid (O1.out.below (hr))
      clear O1
      have O1:=O1a
      clear O1a
      clear hr
      go_simp
      refine hK _ _ (fun HC10=>?_)
      clear hK K
      obtain ⟨gb,egb⟩ : ∃ g,g = wa2.heap.size:=⟨_,rfl⟩
      obtain ⟨wb2,ewb⟩ : ∃ W,W = wa2.alloc (.cells ([.slice none 0 0,.slice none 0 0,.slice none 0 0,.slice none 0 0,.slice none 0 0,.int .i64 0,.int .i64 0,.int .i64 0,.int .i64 0] : List Value).toArray 27):=⟨_,rfl⟩
      have GB : Hid (Blk wb2 gb 27 [.slice none 0 0,.slice none 0 0,.slice none 0 0,.slice none 0 0,.slice none 0 0,.int .i64 0,.int .i64 0,.int .i64 0,.int .i64 0]):=by rw [ewb,egb];exact Lib.hid (blk_new wa2 _ _)
      have BB2 : Hid (Below wi.heap.size wi wb2):=by rw [ewb];exact Lib.hid (bl_alloc BA.out _)
      have G0 : Hid (wi.heap.size ≤ gb):=by rw [egb];exact Lib.hid BA.out.size
      have O1a : Hid (Rd5 wb2 L1 b):=by rw [ewb];exact Lib.hid (O1.out.below (bl_alloc (bl_refl _) _))
      clear O1
      have O1:=O1a
      clear O1a
      simp only [List.toArray] at ewb
      rw [← ewb,← egb]
      clear egb ewb
      refine wpAnyR_oneL HC10 (i:=4) (by kernel_rfl) rfl (by kernel_rfl) (fun wa3 hr=>⟨bl_trans BB2.out hr,?_⟩)
      intro K hK
      have BA:=Lib.hid (bl_trans BB2.out hr)
      have O1a:=Lib.hid (O1.out.below (hr))
      clear O1
      have O1:=O1a
      clear O1a
      have GBa:=Lib.hid (GB.out.below (hr))
      clear GB
      have GB:=GBa
      clear GBa
      clear hr
      go_simp
      go_wp2_with (go_at_call 27;refine (K2.out L1 wa3 O1.out).mono ?_;rintro e wb3 ⟨L2,rfl,ho,hb⟩;have RB:=Lib.hid ho;have BB3:=Lib.hid (bl_trans BA.out hb);have NL:=Lib.hid BA.out.size;have GBL:=Lib.hid GB.out.lt;have GBa:=Lib.hid (GB.out.below hb);clear GB;have GB:=GBa;clear GBa;clear ho hb)
      intro HC11
      have ORD : Hid (gb < wa3.heap.size):=GBL
      refine wpAnyR_takeL (i:=5) (kw:=3) (v:=.tuple #[.agg #[.slice L2.a1 r.st.length L2.c1,.slice L2.a2 r.bt.length L2.c2,.slice L2.a3 r.pd.length L2.c3,.slice L2.a4 r.fo.length L2.c4,.slice L2.a5 r.ac.length L2.c5,.int .i64 r.tu,.int .i64 r.un,.int .i64 r.ra,.int .i64 r.li],.int .i64 ky]) (fun _=>bl_refl _) (fun p q=>bl_trans p q) rfl rfl (by kernel_rfl) (by kernel_rfl) (by kernel_rfl) (by kernel_rfl) (fun _ _ _ h=>h) HC11 (Or.inl ⟨by kernel_rfl,fun W' hI=>?_⟩) (fun HC12=>?_)
      ·exact .inl (by go_simp)
      refine wpAnyR_takeL (i:=6) (kw:=2) (v:=.agg #[.slice L2.a1 r.st.length L2.c1,.slice L2.a2 r.bt.length L2.c2,.slice L2.a3 r.pd.length L2.c3,.slice L2.a4 r.fo.length L2.c4,.slice L2.a5 r.ac.length L2.c5,.int .i64 r.tu,.int .i64 r.un,.int .i64 r.ra,.int .i64 r.li]) (fun _=>bl_refl _) (fun p q=>bl_trans p q) rfl rfl (by kernel_rfl) (by kernel_rfl) (by kernel_rfl) (by kernel_rfl) (fun _ _ _ h=>h) HC12 (Or.inl ⟨by kernel_rfl,fun W' hI=>?_⟩) (fun HC13=>?_)
      ·exact .inl (by go_simp)
      refine wpAnyR_takeL (i:=7) (kw:=2) (v:=.int .i64 ky) (fun _=>bl_refl _) (fun p q=>bl_trans p q) rfl rfl (by kernel_rfl) (by kernel_rfl) (by kernel_rfl) (by kernel_rfl) (fun _ _ _ h=>h) HC13 (Or.inl ⟨by kernel_rfl,fun W' hI=>?_⟩) (fun HC14=>?_)
      ·exact .inl (by go_simp)
      refine wpAnyR_oneL HC14 (i:=9) (by kernel_rfl) rfl (by kernel_rfl) (fun ws hr=>⟨bl_trans BB3.out hr,?_⟩)
      intro K hK
      have BS:=Lib.hid (bl_trans BB3.out hr)
      have GS:=Lib.hid (GB.out.below hr)
      have RS:=Lib.hid (RB.out.below hr)
      clear hr
      try simp only [Act.put,List.setIfInBounds_toArray,List.set_cons_succ,List.set_cons_zero]
      refine wp_store_blk 27 9 (.tmp 14) (.tmp 85) rfl iB gb rfl [.slice L2.a1 r.st.length L2.c1,.slice L2.a2 r.bt.length L2.c2,.slice L2.a3 r.pd.length L2.c3,.slice L2.a4 r.fo.length L2.c4,.slice L2.a5 r.ac.length L2.c5,.int .i64 r.tu,.int .i64 r.un,.int .i64 r.ra,.int .i64 r.li] rfl rfl (by simp [Value.oneCell']) _ GS.out rfl ?_
      intro wt k9 g9
      refine hK _ _ (fun HX1=>?_)
      clear hK K
      have BT9:=Lib.hid (below_grown1 BS.out g9 G0.out)
      have HK9:=Lib.hid k9
      have HG9:=Lib.hid g9
      clear k9 g9
      refine wpAnyR_lastL (by kernel_rfl) (by kernel_rfl) rfl (by kernel_rfl) (fun wu hr=>⟨bl_trans BT9.out hr,?_⟩)
      intro K hK
      have BU:=Lib.hid (bl_trans BT9.out hr)
      have HKU:=Lib.hid (HK9.out.below hr)
      have RU:=Lib.hid ((RS.out.grownB' HG9.out ORD.out).below hr)
      clear hr
      go_simp
      refine hK _ _ ?_
      clear hK K
      go_wp2_with fail
      go_meet
      exact ⟨gb,_,_,L2,rfl,rfl,Lib.hid ⟨HKU.out,RU.out,RU.out.hi,.inl ORD.out,NL.out,G0.out,Nat.le_refl _⟩,Lib.hid BU.out⟩
    ·have BA:=Lib.hid (bl_drewT hr)
     clear hr
     go_simp
     refine hK _ _ (fun HC15=>?_)
     clear hK K
     obtain ⟨gb,egb⟩ : ∃ g,g = wa1.heap.size:=⟨_,rfl⟩
     obtain ⟨wb1,ewb⟩ : ∃ W,W = wa1.alloc (.cells ([.slice none 0 0,.slice none 0 0,.slice none 0 0,.slice none 0 0,.slice none 0 0,.int .i64 0,.int .i64 0,.int .i64 0,.int .i64 0] : List Value).toArray 27):=⟨_,rfl⟩
     have GB : Hid (Blk wb1 gb 27 [.slice none 0 0,.slice none 0 0,.slice none 0 0,.slice none 0 0,.slice none 0 0,.int .i64 0,.int .i64 0,.int .i64 0,.int .i64 0]):=by rw [ewb,egb];exact Lib.hid (blk_new wa1 _ _)
     have BB1 : Hid (Below wi.heap.size wi wb1):=by rw [ewb];exact Lib.hid (bl_alloc BA.out _)
     have G0 : Hid (wi.heap.size ≤ gb):=by rw [egb];exact Lib.hid BA.out.size
     simp only [List.toArray] at ewb
     rw [← ewb,← egb]
     clear egb ewb
     refine wpAnyR_oneL HC15 (i:=1) (by kernel_rfl) rfl (by kernel_rfl) (fun wa2 hr=>⟨bl_trans BB1.out hr,?_⟩)
     intro K hK
     have BA:=Lib.hid (bl_trans BB1.out hr)
     have GBa:=Lib.hid (GB.out.below (hr))
     clear GB
     have GB:=GBa
     clear GBa
     clear hr
     go_simp
     go_wp2_with (go_at_call 56;refine (KT.out _ (bl_trans BW.out BA.out)).mono ?_;rintro e wb2 ⟨L1,rfl,ho,hb⟩;have O1:=Lib.hid ho.rd;have BB2:=Lib.hid (bl_trans BA.out hb);have GBa:=Lib.hid (GB.out.below hb);clear GB;have GB:=GBa;clear GBa;clear ho hb)
     intro HC16
     refine wpAnyR_takeL (i:=3) (kw:=4) (v:=.agg #[.int .i64 kk,.int .i64 xx]) (fun _=>bl_refl _) (fun p q=>bl_trans p q) rfl rfl (by kernel_rfl) (by kernel_rfl) (by kernel_rfl) (by kernel_rfl) (fun _ _ _ h=>h) HC16 (Or.inl ⟨by kernel_rfl,fun W' hI=>?_⟩) (fun HC17=>?_)
     ·exact .inr ⟨57,#[.agg #[.int .i64 kk,.int .i64 xx]],by go_simp,KA.out W'⟩
     refine wpAnyR_oneL HC17 (i:=4) (by kernel_rfl) rfl (by kernel_rfl) (fun wa3 hr=>⟨bl_trans BB2.out hr,?_⟩)
     intro K hK
     have BA:=Lib.hid (bl_trans BB2.out hr)
     have O1a:=Lib.hid (O1.out.below (hr))
     clear O1
     have O1:=O1a
     clear O1a
     have GBa:=Lib.hid (GB.out.below (hr))
     clear GB
     have GB:=GBa
     clear GBa
     clear hr
     go_simp
     go_wp2_with (go_at_call 27;refine (K2.out L1 wa3 O1.out).mono ?_;rintro e wb3 ⟨L2,rfl,ho,hb⟩;have RB:=Lib.hid ho;have BB3:=Lib.hid (bl_trans BA.out hb);have NL:=Lib.hid BA.out.size;have GBL:=Lib.hid GB.out.lt;have GBa:=Lib.hid (GB.out.below hb);clear GB;have GB:=GBa;clear GBa;clear ho hb)
     intro HC18
     have ORD : Hid (gb < wa3.heap.size):=GBL
     refine wpAnyR_takeL (i:=5) (kw:=3) (v:=.tuple #[.agg #[.slice L2.a1 r.st.length L2.c1,.slice L2.a2 r.bt.length L2.c2,.slice L2.a3 r.pd.length L2.c3,.slice L2.a4 r.fo.length L2.c4,.slice L2.a5 r.ac.length L2.c5,.int .i64 r.tu,.int .i64 r.un,.int .i64 r.ra,.int .i64 r.li],.int .i64 ky]) (fun _=>bl_refl _) (fun p q=>bl_trans p q) rfl rfl (by kernel_rfl) (by kernel_rfl) (by kernel_rfl) (by kernel_rfl) (fun _ _ _ h=>h) HC18 (Or.inl ⟨by kernel_rfl,fun W' hI=>?_⟩) (fun HC19=>?_)
     ·exact .inl (by go_simp)
     refine wpAnyR_takeL (i:=6) (kw:=2) (v:=.agg #[.slice L2.a1 r.st.length L2.c1,.slice L2.a2 r.bt.length L2.c2,.slice L2.a3 r.pd.length L2.c3,.slice L2.a4 r.fo.length L2.c4,.slice L2.a5 r.ac.length L2.c5,.int .i64 r.tu,.int .i64 r.un,.int .i64 r.ra,.int .i64 r.li]) (fun _=>bl_refl _) (fun p q=>bl_trans p q) rfl rfl (by kernel_rfl) (by kernel_rfl) (by kernel_rfl) (by kernel_rfl) (fun _ _ _ h=>h) HC19 (Or.inl ⟨by kernel_rfl,fun W' hI=>?_⟩) (fun HC20=>?_)
     ·exact .inl (by go_simp)
     refine wpAnyR_takeL (i:=7) (kw:=2) (v:=.int .i64 ky) (fun _=>bl_refl _) (fun p q=>bl_trans p q) rfl rfl (by kernel_rfl) (by kernel_rfl) (by kernel_rfl) (by kernel_rfl) (fun _ _ _ h=>h) HC20 (Or.inl ⟨by kernel_rfl,fun W' hI=>?_⟩) (fun HC21=>?_)
     ·exact .inl (by go_simp)
     refine wpAnyR_oneL HC21 (i:=9) (by kernel_rfl) rfl (by kernel_rfl) (fun ws hr=>⟨bl_trans BB3.out hr,?_⟩)
     intro K hK
     have BS:=Lib.hid (bl_trans BB3.out hr)
     have GS:=Lib.hid (GB.out.below hr)
     have RS:=Lib.hid (RB.out.below hr)
     clear hr
     try simp only [Act.put,List.setIfInBounds_toArray,List.set_cons_succ,List.set_cons_zero]
     refine wp_store_blk 27 9 (.tmp 14) (.tmp 85) rfl iB gb rfl [.slice L2.a1 r.st.length L2.c1,.slice L2.a2 r.bt.length L2.c2,.slice L2.a3 r.pd.length L2.c3,.slice L2.a4 r.fo.length L2.c4,.slice L2.a5 r.ac.length L2.c5,.int .i64 r.tu,.int .i64 r.un,.int .i64 r.ra,.int .i64 r.li] rfl rfl (by simp [Value.oneCell']) _ GS.out rfl ?_
     intro wt k9 g9
     refine hK _ _ (fun HX1=>?_)
     clear hK K
     have BT9:=Lib.hid (below_grown1 BS.out g9 G0.out)
     have HK9:=Lib.hid k9
     have HG9:=Lib.hid g9
     clear k9 g9
     refine wpAnyR_lastL (by kernel_rfl) (by kernel_rfl) rfl (by kernel_rfl) (fun wu hr=>⟨bl_trans BT9.out hr,?_⟩)
     intro K hK
     have BU:=Lib.hid (bl_trans BT9.out hr)
     have HKU:=Lib.hid (HK9.out.below hr)
     have RU:=Lib.hid ((RS.out.grownB' HG9.out ORD.out).below hr)
     clear hr
     go_simp
     refine hK _ _ ?_
     clear hK K
     go_wp2_with fail
     go_meet
     exact ⟨gb,_,_,L2,rfl,rfl,Lib.hid ⟨HKU.out,RU.out,RU.out.hi,.inl ORD.out,NL.out,G0.out,Nat.le_refl _⟩,Lib.hid BU.out⟩
   case rest =>
    obtain ⟨g6,lo6,hi6,L6,rfl,rfl,SH,XH⟩:=hcut
    have SWj:=Lib.hid (SWi.out.below XH.out)
    have NGj:=Lib.hid (NGi.out.below XH.out)
    have MGj:=Lib.hid (MGi.out.below XH.out)
    have BWj:=Lib.hid (bl_trans BW.out XH.out)
    clear SWi NGi MGi NA NC BW XH
    have SWb:=SWj.out.blk
    have SHb:=SH.out.blk
    obtain ⟨a0,-⟩:=SWb.cell 0 _ rfl;obtain ⟨a1,-⟩:=SWb.cell 1 _ rfl;obtain ⟨a2,-⟩:=SWb.cell 2 _ rfl;obtain ⟨a3,-⟩:=SWb.cell 3 _ rfl;obtain ⟨a4,-⟩:=SWb.cell 4 _ rfl;obtain ⟨a5,-⟩:=SWb.cell 5 _ rfl;obtain ⟨a6,-⟩:=SWb.cell 6 _ rfl;obtain ⟨a7,-⟩:=SWb.cell 7 _ rfl;obtain ⟨a8,-⟩:=SWb.cell 8 _ rfl
    obtain ⟨s0,-⟩:=SHb.cell 0 _ rfl;obtain ⟨s1,-⟩:=SHb.cell 1 _ rfl;obtain ⟨s2,-⟩:=SHb.cell 2 _ rfl;obtain ⟨s3,-⟩:=SHb.cell 3 _ rfl;obtain ⟨s4,-⟩:=SHb.cell 4 _ rfl;obtain ⟨s5,-⟩:=SHb.cell 5 _ rfl;obtain ⟨s6,-⟩:=SHb.cell 6 _ rfl;obtain ⟨s7,-⟩:=SHb.cell 7 _ rfl;obtain ⟨s8,-⟩:=SHb.cell 8 _ rfl
    clear SWb SHb
    go_wp2_with (first
     | (go_at_call 58;refine (eqBetting_same L6 L2 r _ SH.out.rows.rd SWj.out.rows.rd mr).mono ?_;rintro e wk ⟨rfl,hb⟩;have NGk:=Lib.hid (NGj.out.below hb);have MGk:=Lib.hid (MGj.out.below hb);have BWk:=Lib.hid (bl_trans BWj.out hb);clear hb;have NGc:=NGk.out;obtain ⟨j0,-⟩:=NGc.cell 0 _ rfl;obtain ⟨j1,-⟩:=NGc.cell 1 _ rfl;obtain ⟨j2,-⟩:=NGc.cell 2 _ rfl;obtain ⟨j3,-⟩:=NGc.cell 3 _ rfl;obtain ⟨j4,-⟩:=NGc.cell 4 _ rfl;obtain ⟨j5,-⟩:=NGc.cell 5 _ rfl;obtain ⟨j6,-⟩:=NGc.cell 6 _ rfl;obtain ⟨j7,-⟩:=NGc.cell 7 _ rfl;obtain ⟨j8,-⟩:=NGc.cell 8 _ rfl;clear NGc)
     | (go_at_call 60;(with_reducible refine (KH4.out _ _ MGk.out.rd).mono ?_);rintro e wl ⟨rfl,hb⟩;have BWl:=Lib.hid (bl_trans BWk.out hb);clear hb))
    go_ret
    exact ⟨rfl,BWl.out⟩

theorem walkApplyAction (L : At5) (b : Bt) (kk xx : Int) (w : World) (hm : Mx b) (hr : Rd5 w L b) :
  Calls Try.prog 8 #[bV L b,acV kk xx] w (Fresh (.bool true) w):=by
 by_cases h : (1048576 : Int) - (b.st.length : Int) - (b.bt.length : Int) - (b.pd.length : Int) - (b.fo.length : Int) - (b.ac.length : Int) < 0
 ·exact walkApplyAction_big L b kk xx w hm h
 ·exact walkApplyAction_in L b kk xx w hr (by omega) ⟨by omega,by omega,by omega,by omega,by omega⟩

set_option maxRecDepth 100000 in
theorem fnExactApplyAction_lifted (os : Go.Os) (started : os.Started) (H : Type) (enc : TypeId × Value → H) :
  ReturnsInHanded {} Try.checked os 8 .any (Rows.fnExactApplyActionSpec.pre6 enc Try.prog Try.f8 Rows.fnExactApplyActionRow.domain false) (Rows.fnExactApplyActionSpec.post enc Try.prog Try.f8 false true false false):=by
 refine law_lifted started (by kernel_rfl) Try.func8 (by kernel_rfl) rfl (fun ds h=>?_) ?_
  (ChangeSpec.witness6 (enc:=enc) (C:=Try.checked) false ⟨#[],#[.agg #[.slice none 0 0,.slice none 0 0,.slice none 0 0,.slice none 0 0,.slice none 0 0,.int .i64 0,.int .i64 0,.int .i64 0,.int .i64 0],.agg #[.int .i64 0,.int .i64 0]],[]⟩ 8 (by kernel_rfl) (by kernel_rfl) (by kernel_rfl) (by kernel_rfl)) ?_
 ·match ds,h with
  | [d0,d1],_=>rfl
 ·rw [Try.params8]
  intro t ht
  rcases (show t = 62 ∨ t = 63 by simpa using ht) with rfl | rfl <;> exact ⟨by kernel_rfl,of_decide_eq_true (by kernel_rfl)⟩
 ·intro W base args ds ps hval hA
  rw [Try.params8] at hA hval
  obtain ⟨v0,v1,d0,d1,p0,p1,rfl,rfl,rfl,h0,h1⟩:=trodAll_two hA
  obtain ⟨L0,b0,rfl,r0,m0,i0a,i0b,i0c,i0d⟩:=open_betting (hval 0 62 v0 rfl rfl) h0
  obtain ⟨kk1,xx1,rfl,ia1,ib1⟩:=open_action (hval 1 63 v1 rfl rfl) h1
  exact walkApplyAction L0 b0 kk1 xx1 W m0 r0

/-- ApplyAction answers as its model,for every round and every action. -/
theorem fnExactApplyAction_holds : Rows.FnExactApplyActionSaid :=
 OpenClaim.holds_of_wide 8 Try.f8 rfl rfl rfl rfl rfl rfl rfl ⟨rfl,rfl,rfl,rfl,rfl⟩ rfl rfl rfl rfl rfl (by kernel_rfl) Try.func8 (by kernel_rfl)
  (of_decide_eq_true (by kernel_rfl)) (by unfold Func.isWrapper;first | (rw [if_pos (by decide +kernel)];kernel_rfl) | (rw [if_neg (by decide +kernel)];exact ⟨rfl,rfl⟩))
  (fun os started H enc _=>fnExactApplyAction_lifted os started H enc)

end Go.Proofs.Ythgfohdjpfhebaa
