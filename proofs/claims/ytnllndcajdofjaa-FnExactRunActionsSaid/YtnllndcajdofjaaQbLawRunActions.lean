/-
 The law FnExactRunActions returns true for every round and every list of actions, and leaves them as they were: RunActions answers as its model, with a round of its own.
 No condition.
-/
import Derived.Test.YtnllndcajdofjaaQbBetToG
import Derived.Test.YtnllndcajdofjaaQbBetRunF
import Derived.Test.YtnllndcajdofjaaQbBetChkG
import Derived.Test.YtnllndcajdofjaaQbBetClrIG
import Derived.Lib.SmallJoins
namespace Go.Proofs.Ytnllndcajdofjaa
open Go.ChangeShapes Go.WideShapes Go.ChangeAt Go.RowKit Go.Joins
set_option linter.unusedVariables false

theorem smz2 : Sm zB:=⟨by decide,by decide,by decide,by decide,by decide⟩
theorem sm_run {b : Bt} (m : Sm b) (fl : List Int) (n : Nat) : Sm (runB b fl n):=by
 unfold runB
 split
 ·obtain ⟨e1,e2,e3,e4,e5⟩:=acc_lens b fl (stopN b fl n)
  exact ⟨by rw [e1];exact m.m1,by rw [e2];exact m.m2,by rw [e3];exact m.m3,by rw [e4];exact m.m4,by rw [e5];exact m.m5⟩
 ·exact smz2
theorem span_own {W W' : World} {Y : Option Addr} {n d lo hi : Nat} (hg : W.grownBy W' (Value.slice Y n d).ownBlock) (h : ∀ a,Y = some a → lo ≤ a.block ∧ a.block < hi) : Span W W' lo hi :=
 (Span.refl W lo hi).grown hg (fun j ej=>by
  rcases Y with _ | a
  ·cases ej
  ·have q : a.block = j:=Option.some.inj ej
   have:=h a rfl
   omega)
set_option maxRecDepth 100000 in
set_option maxHeartbeats 2000000 in
theorem walkRunActions_big (L : At5) (b : Bt) (A : Option Addr) (cA n : Nat) (fl : List Int) (w : World) (hm : Mx b) (h : (1048576 : Int) - (b.st.length : Int) - (b.bt.length : Int) - (b.pd.length : Int) - (b.fo.length : Int) - (b.ac.length : Int) < 0) :
  Calls Try.prog 10 #[bV L b,.slice A n cA] w (Fresh (.bool true) w):=by
 have KZ:=Lib.hid (fun W : World=>szBetting_no L b 1048576 W (by omega) (by omega) hm h)
 have N0:=blk_new w 70 [.slice L.a1 b.st.length L.c1,.slice L.a2 b.bt.length L.c2,.slice L.a3 b.pd.length L.c3,.slice L.a4 b.fo.length L.c4,.slice L.a5 b.ac.length L.c5,.int .i64 b.tu,.int .i64 b.un,.int .i64 b.ra,.int .i64 b.li]
 obtain ⟨q0,-⟩:=N0.cell 0 _ rfl
 obtain ⟨q1,-⟩:=N0.cell 1 _ rfl
 obtain ⟨q2,-⟩:=N0.cell 2 _ rfl
 obtain ⟨q3,-⟩:=N0.cell 3 _ rfl
 obtain ⟨q4,-⟩:=N0.cell 4 _ rfl
 obtain ⟨q5,-⟩:=N0.cell 5 _ rfl
 obtain ⟨q6,-⟩:=N0.cell 6 _ rfl
 obtain ⟨q7,-⟩:=N0.cell 7 _ rfl
 obtain ⟨q8,-⟩:=N0.cell 8 _ rfl
 have B:=Lib.hid (bl_alloc (bl_refl w) (.cells ([.slice L.a1 b.st.length L.c1,.slice L.a2 b.bt.length L.c2,.slice L.a3 b.pd.length L.c3,.slice L.a4 b.fo.length L.c4,.slice L.a5 b.ac.length L.c5,.int .i64 b.tu,.int .i64 b.un,.int .i64 b.ra,.int .i64 b.li] : List Value).toArray 70))
 clear N0 hm h
 unfold bV at *
 go_enter Try.func10,Try.ntmps10
 go_wp2_with (go_at_call 59;refine (KZ.out _).mono ?_;rintro e wn ⟨rfl,hb⟩;have Ba:=Lib.hid (bl_trans B.out hb))
 go_ret
 exact ⟨rfl,Ba.out⟩
set_option maxRecDepth 100000 in
set_option maxHeartbeats 2000000 in
theorem walkRunActions_far (L : At5) (b : Bt) (A : Option Addr) (cA n : Nat) (fl : List Int) (w : World) (hs : 0 ≤ (1048576 : Int) - (b.st.length : Int) - (b.bt.length : Int) - (b.pd.length : Int) - (b.fo.length : Int) - (b.ac.length : Int)) (hnm : n ≤ maxLen) (h : (1048576 : Int) - (b.st.length : Int) - (b.bt.length : Int) - (b.pd.length : Int) - (b.fo.length : Int) - (b.ac.length : Int) - (n : Int) < 0) :
  Calls Try.prog 10 #[bV L b,.slice A n cA] w (Fresh (.bool true) w):=by
 have KZ:=Lib.hid (fun W : World=>szBetting_yes L b 1048576 W (by omega) (by omega) hs)
 obtain ⟨zz,ez⟩ : ∃ z : Int,z = (1048576 : Int) - (b.st.length : Int) - (b.bt.length : Int) - (b.pd.length : Int) - (b.fo.length : Int) - (b.ac.length : Int):=⟨_,rfl⟩
 rw [← ez] at KZ hs h
 have hz1 : zz ≤ 1048576:=by omega
 have KZA : Hid (∀ W : World,Calls Try.prog 61 #[.slice A n cA,.int .i64 zz] W (Same (.int .i64 (-1)) W)):=Lib.hid (fun W=>by have q:=szActs_any A n cA zz W hs (by omega) hnm;rw [if_pos h] at q;exact q)
 have dz : decide (zz < 0) = false:=decide_eq_false (by omega)
 clear ez h hs hz1 hnm
 have N0:=blk_new w 70 [.slice L.a1 b.st.length L.c1,.slice L.a2 b.bt.length L.c2,.slice L.a3 b.pd.length L.c3,.slice L.a4 b.fo.length L.c4,.slice L.a5 b.ac.length L.c5,.int .i64 b.tu,.int .i64 b.un,.int .i64 b.ra,.int .i64 b.li]
 obtain ⟨q0,-⟩:=N0.cell 0 _ rfl
 obtain ⟨q1,-⟩:=N0.cell 1 _ rfl
 obtain ⟨q2,-⟩:=N0.cell 2 _ rfl
 obtain ⟨q3,-⟩:=N0.cell 3 _ rfl
 obtain ⟨q4,-⟩:=N0.cell 4 _ rfl
 obtain ⟨q5,-⟩:=N0.cell 5 _ rfl
 obtain ⟨q6,-⟩:=N0.cell 6 _ rfl
 obtain ⟨q7,-⟩:=N0.cell 7 _ rfl
 obtain ⟨q8,-⟩:=N0.cell 8 _ rfl
 have B:=Lib.hid (bl_alloc (bl_refl w) (.cells ([.slice L.a1 b.st.length L.c1,.slice L.a2 b.bt.length L.c2,.slice L.a3 b.pd.length L.c3,.slice L.a4 b.fo.length L.c4,.slice L.a5 b.ac.length L.c5,.int .i64 b.tu,.int .i64 b.un,.int .i64 b.ra,.int .i64 b.li] : List Value).toArray 70))
 clear N0
 unfold bV at *
 go_enter Try.func10,Try.ntmps10
 go_wp2_with (first
  | (go_at_call 59;refine (KZ.out _).mono ?_;rintro e wn ⟨rfl,hb⟩;have Ba:=Lib.hid (bl_trans B.out hb))
  | (go_at_call 61;refine (KZA.out _).mono ?_;rintro e wz ⟨rfl,rfl⟩))
 go_ret
 exact ⟨rfl,Ba.out⟩
set_option maxRecDepth 100000 in
set_option maxHeartbeats 3000000 in
theorem walkRunActions_in (L : At5) (b : Bt) (A : Option Addr) (cA n : Nat) (fl : List Int) (w : World) (hr : Rd5 w L b) (hs : 0 ≤ (1048576 : Int) - (b.st.length : Int) - (b.bt.length : Int) - (b.pd.length : Int) - (b.fo.length : Int) - (b.ac.length : Int)) (m : Sm b) (hA : Rd w A fl) (hl : fl.length = n * 2) (hs2 : 0 ≤ (1048576 : Int) - (b.st.length : Int) - (b.bt.length : Int) - (b.pd.length : Int) - (b.fo.length : Int) - (b.ac.length : Int) - (n : Int)) (hnm : n ≤ maxLen) :
  Calls Try.prog 10 #[bV L b,.slice A n cA] w (Fresh (.bool true) w):=by
 have KZ:=Lib.hid (fun W : World=>szBetting_yes L b 1048576 W (by omega) (by omega) hs)
 have KT:=Lib.hid (fun (W : World) (h : Below w.heap.size w W)=>toBetting_any L b W (hr.below h) m)
 obtain ⟨zz,ez⟩ : ∃ z : Int,z = (1048576 : Int) - (b.st.length : Int) - (b.bt.length : Int) - (b.pd.length : Int) - (b.fo.length : Int) - (b.ac.length : Int):=⟨_,rfl⟩
 rw [← ez] at KZ hs hs2
 have hz1 : zz ≤ 1048576:=by omega
 have KZA : Hid (∀ W : World,Calls Try.prog 61 #[.slice A n cA,.int .i64 zz] W (Same (.int .i64 (zz - (n : Int))) W)):=Lib.hid (fun W=>by have q:=szActs_any A n cA zz W hs (by omega) hnm;rw [if_neg (by omega)] at q;exact q)
 have dz2 : decide (zz - (n : Int) < 0) = false:=decide_eq_false (by omega)
 have hn1 : n ≤ 1048576:=by omega
 have hn4 : n ≤ 4000000:=by omega
 have KTA:=Lib.hid (fun (W : World) (h : Below w.heap.size w W)=>toActs_any A cA n fl W (hA.below h) hl hn1)
 have HLF:=Lib.hid hl
 have dz : decide (zz < 0) = false:=decide_eq_false (by omega)
 clear ez
 have z : Sz b:=⟨by have:=m.m1;omega,by have:=m.m2;omega,by have:=m.m3;omega⟩
 have hmx : Try.prog.follows .mixedOrders = true:=by kernel_rfl
 obtain ⟨r,nn,ky,mr,K1,K2⟩ : ∃ (r : Bt) (nn ky : Int),Sm r ∧ Hid (∀ (L : At5) (W : World),Rd5 W L b → ∀ (A : Option Addr) (cA : Nat),Rd W A fl → Calls Try.prog 44 #[bV L b,.slice A n cA] W (NewBtNC r nn ky W)) ∧ Hid (∀ (L : At5) (W : World),Rd5 W L b → ∀ (A : Option Addr) (cA : Nat),Rd W A fl → Calls Try.prog 43 #[bV L b,.slice A n cA] W (NewBtNC r nn ky W)) :=
  ⟨runB b fl n,runN b fl n,runC b fl n,sm_run m fl n,Lib.hid (fun L W h A c hA=>specRun_any L b A c fl n W h hA hl z hnm),Lib.hid (fun L W h A c hA=>implRun_any L b A c fl n W h hA hl hnm)⟩
 obtain ⟨kt,ekt⟩ : ∃ kt : Int,kt = (1 : Int) + (b.st.length : Int) + (b.bt.length : Int) + (b.pd.length : Int) + (b.fo.length : Int) + (b.ac.length : Int):=⟨_,rfl⟩
 obtain ⟨mt,emt⟩ : ∃ kt : Int,kt = (1 : Int) + (r.st.length : Int) + (r.bt.length : Int) + (r.pd.length : Int) + (r.fo.length : Int) + (r.ac.length : Int):=⟨_,rfl⟩
 have k1 : decide (kt < 0) = false:=decide_eq_false (by omega)
 have k2 : decide (mt < 0) = false:=decide_eq_false (by omega)
 have hkt : 0 ≤ kt ∧ kt ≤ 100000000:=by have:=m.m1;have:=m.m2;have:=m.m3;have:=m.m4;have:=m.m5;omega
 obtain ⟨kt2,ekt2⟩ : ∃ q : Int,q = kt + ((n * 2 : Nat) : Int):=⟨_,rfl⟩
 have k3 : decide (kt2 < 0) = false:=decide_eq_false (by omega)
 have KMA:=Lib.hid (fun (A' : Option Addr) (c' lo : Nat) (W : World) (h : Row W lo A' fl)=>markActs_any A' c' lo n fl kt W h hl hn4 hkt.1 hkt.2)
 unfold MarkPostA at KMA
 rw [← ekt2] at KMA
 have KM3:=Lib.hid (fun (L : At5) (lo hi : Nat) (W : World) (h : Row5 W lo L b) (hh : Hi5 L hi)=>markBetting_any L lo hi b 1 W h hh m (by omega) (by omega))
 have KM4:=Lib.hid (fun (L : At5) (lo hi : Nat) (W : World) (h : Row5 W lo L r) (hh : Hi5 L hi)=>markBetting_any L lo hi r 1 W h hh mr (by omega) (by omega))
 have KH4:=Lib.hid (fun (L : At5) (W : World) (h : Rd5 W L (mkB r 1))=>heldBetting_any L r 1 W h mr (by omega) (by omega))
 unfold MarkPost5 at KM3 KM4
 rw [← ekt] at KM3
 rw [← emt] at KM4 KH4
 clear hr z hs ekt emt ekt2 hkt hA hl hs2 hnm hz1
 unfold NewBtNC NewBt NewAct bV at *
 have NA0:=Lib.hid (blk_new w 70 [.slice L.a1 b.st.length L.c1,.slice L.a2 b.bt.length L.c2,.slice L.a3 b.pd.length L.c3,.slice L.a4 b.fo.length L.c4,.slice L.a5 b.ac.length L.c5,.int .i64 b.tu,.int .i64 b.un,.int .i64 b.ra,.int .i64 b.li])
 have BW0:=Lib.hid (bl_alloc (bl_refl w) (.cells ([.slice L.a1 b.st.length L.c1,.slice L.a2 b.bt.length L.c2,.slice L.a3 b.pd.length L.c3,.slice L.a4 b.fo.length L.c4,.slice L.a5 b.ac.length L.c5,.int .i64 b.tu,.int .i64 b.un,.int .i64 b.ra,.int .i64 b.li] : List Value).toArray 70))
 have NAb:=NA0.out
 obtain ⟨q0,-⟩:=NAb.cell 0 _ rfl;obtain ⟨q1,-⟩:=NAb.cell 1 _ rfl;obtain ⟨q2,-⟩:=NAb.cell 2 _ rfl;obtain ⟨q3,-⟩:=NAb.cell 3 _ rfl;obtain ⟨q4,-⟩:=NAb.cell 4 _ rfl;obtain ⟨q5,-⟩:=NAb.cell 5 _ rfl;obtain ⟨q6,-⟩:=NAb.cell 6 _ rfl;obtain ⟨q7,-⟩:=NAb.cell 7 _ rfl;obtain ⟨q8,-⟩:=NAb.cell 8 _ rfl
 clear NAb
 go_enter Try.func10,Try.ntmps10
 go_wp2_with (first
  | (go_at_call 59;refine (KZ.out _).mono ?_;rintro e w1 ⟨rfl,hb⟩;have NA1:=Lib.hid (NA0.out.below hb);have BW1:=Lib.hid (bl_trans BW0.out hb);clear hb NA0 BW0;have NAb:=NA1.out;obtain ⟨u0,-⟩:=NAb.cell 0 _ rfl;obtain ⟨u1,-⟩:=NAb.cell 1 _ rfl;obtain ⟨u2,-⟩:=NAb.cell 2 _ rfl;obtain ⟨u3,-⟩:=NAb.cell 3 _ rfl;obtain ⟨u4,-⟩:=NAb.cell 4 _ rfl;obtain ⟨u5,-⟩:=NAb.cell 5 _ rfl;obtain ⟨u6,-⟩:=NAb.cell 6 _ rfl;obtain ⟨u7,-⟩:=NAb.cell 7 _ rfl;obtain ⟨u8,-⟩:=NAb.cell 8 _ rfl;clear NAb)
  | (go_at_call 61;refine (KZA.out _).mono ?_;rintro e wz ⟨rfl,rfl⟩)
  | (go_at_call 62;refine (KTA.out _ BW2.out).mono ?_;rintro e w2a ⟨Y1,d1,rfl,hy,hb⟩;have RY1:=Lib.hid hy.rd;replace O1:=Lib.hid (O1.out.below hb);replace NA2:=Lib.hid (NA2.out.below hb);replace BW2:=Lib.hid (bl_trans BW2.out hb);clear hy hb)
  | (go_at_call 62;refine (KTA.out _ BW6.out).mono ?_;rintro e w6 ⟨Y2,d2,rfl,hy,hb⟩;have gx7 : Hid (w5.heap.size ≤ w6.heap.size):=Lib.hid (Nat.le_trans gx6.out hb.size);have HAB : Hid (∀ a,Y2 = some a → w5.heap.size ≤ a.block ∧ a.block < w6.heap.size):=Lib.hid (fun a ea=>⟨Nat.le_trans gx6.out (hy.1 a ea).1,(hy.1 a ea).2⟩);have RY2:=Lib.hid hy;replace NX6:=Lib.hid (NX6.out.below hb);replace O36:=Lib.hid (O36.out.below hb);replace SW6:=Lib.hid (SW6.out.below hb);replace NA6:=Lib.hid (NA6.out.below hb);replace BW6:=Lib.hid (bl_trans BW6.out hb);clear hy hb;have NXb:=NX6.out;obtain ⟨xa0,-⟩:=NXb.cell 0 _ rfl;obtain ⟨xa1,-⟩:=NXb.cell 1 _ rfl;obtain ⟨xa2,-⟩:=NXb.cell 2 _ rfl;obtain ⟨xa3,-⟩:=NXb.cell 3 _ rfl;obtain ⟨xa4,-⟩:=NXb.cell 4 _ rfl;obtain ⟨xa5,-⟩:=NXb.cell 5 _ rfl;obtain ⟨xa6,-⟩:=NXb.cell 6 _ rfl;obtain ⟨xa7,-⟩:=NXb.cell 7 _ rfl;obtain ⟨xa8,-⟩:=NXb.cell 8 _ rfl;clear NXb)
  | (go_at_call 60;refine (KT.out _ BW1.out).mono ?_;rintro e w2 ⟨L1,rfl,ho,hb⟩;have O1:=Lib.hid ho.rd;have NA2:=Lib.hid (NA1.out.below hb);have BW2:=Lib.hid (bl_trans BW1.out hb);clear ho hb NA1 BW1)
  | (go_at_call 44;refine (K1.out L1 _ O1.out Y1 d1 RY1.out).mono ?_;rintro e w3 ⟨L2,rfl,ho,hb⟩;have hx:=bl_trans hb (bl_alloc (bl_refl w3) (.cells ([.slice L2.a1 r.st.length L2.c1,.slice L2.a2 r.bt.length L2.c2,.slice L2.a3 r.pd.length L2.c3,.slice L2.a4 r.fo.length L2.c4,.slice L2.a5 r.ac.length L2.c5,.int .i64 r.tu,.int .i64 r.un,.int .i64 r.ra,.int .i64 r.li] : List Value).toArray 27));have SW3:=Lib.hid (St.rowsBox (W'':=w) ho (Nat.le_refl _) (Nat.le_refl _) (bl_alloc (bl_refl w3) (.cells ([.slice L2.a1 r.st.length L2.c1,.slice L2.a2 r.bt.length L2.c2,.slice L2.a3 r.pd.length L2.c3,.slice L2.a4 r.fo.length L2.c4,.slice L2.a5 r.ac.length L2.c5,.int .i64 r.tu,.int .i64 r.un,.int .i64 r.ra,.int .i64 r.li] : List Value).toArray 27)) (blk_new w3 27 [.slice L2.a1 r.st.length L2.c1,.slice L2.a2 r.bt.length L2.c2,.slice L2.a3 r.pd.length L2.c3,.slice L2.a4 r.fo.length L2.c4,.slice L2.a5 r.ac.length L2.c5,.int .i64 r.tu,.int .i64 r.un,.int .i64 r.ra,.int .i64 r.li]) hb.size);have NA3:=Lib.hid (NA2.out.below hx);have BW3:=Lib.hid (bl_trans BW2.out hx);have H2 : Hid (w.heap.size < (w3.alloc (.cells ([.slice L2.a1 r.st.length L2.c1,.slice L2.a2 r.bt.length L2.c2,.slice L2.a3 r.pd.length L2.c3,.slice L2.a4 r.fo.length L2.c4,.slice L2.a5 r.ac.length L2.c5,.int .i64 r.tu,.int .i64 r.un,.int .i64 r.ra,.int .i64 r.li] : List Value).toArray 27)).heap.size):=Lib.hid (by have:=(NA2.out.below hb).lt;rw [World.size_alloc];omega);have hw2 : Hid (w3.heap.size ≤ (w3.alloc (.cells ([.slice L2.a1 r.st.length L2.c1,.slice L2.a2 r.bt.length L2.c2,.slice L2.a3 r.pd.length L2.c3,.slice L2.a4 r.fo.length L2.c4,.slice L2.a5 r.ac.length L2.c5,.int .i64 r.tu,.int .i64 r.un,.int .i64 r.ra,.int .i64 r.li] : List Value).toArray 27)).heap.size ∧ w3.heap.size < (w3.alloc (.cells ([.slice L2.a1 r.st.length L2.c1,.slice L2.a2 r.bt.length L2.c2,.slice L2.a3 r.pd.length L2.c3,.slice L2.a4 r.fo.length L2.c4,.slice L2.a5 r.ac.length L2.c5,.int .i64 r.tu,.int .i64 r.un,.int .i64 r.ra,.int .i64 r.li] : List Value).toArray 27)).heap.size):=Lib.hid (by rw [World.size_alloc];omega);clear ho hb hx NA2 BW2 O1 RY1;have NAb:=NA3.out;obtain ⟨v0,-⟩:=NAb.cell 0 _ rfl;obtain ⟨v1,-⟩:=NAb.cell 1 _ rfl;obtain ⟨v2,-⟩:=NAb.cell 2 _ rfl;obtain ⟨v3,-⟩:=NAb.cell 3 _ rfl;obtain ⟨v4,-⟩:=NAb.cell 4 _ rfl;obtain ⟨v5,-⟩:=NAb.cell 5 _ rfl;obtain ⟨v6,-⟩:=NAb.cell 6 _ rfl;obtain ⟨v7,-⟩:=NAb.cell 7 _ rfl;obtain ⟨v8,-⟩:=NAb.cell 8 _ rfl;clear NAb)
  | (go_at_call 60;refine (KT.out _ BW3.out).mono ?_;rintro e w5 ⟨L3,rfl,ho,hb⟩;have hx:=bl_trans hb (bl_alloc (bl_refl w5) (.cells ([.slice L3.a1 b.st.length L3.c1,.slice L3.a2 b.bt.length L3.c2,.slice L3.a3 b.pd.length L3.c3,.slice L3.a4 b.fo.length L3.c4,.slice L3.a5 b.ac.length L3.c5,.int .i64 b.tu,.int .i64 b.un,.int .i64 b.ra,.int .i64 b.li] : List Value).toArray 27));have NX6:=Lib.hid (blk_new w5 27 [.slice L3.a1 b.st.length L3.c1,.slice L3.a2 b.bt.length L3.c2,.slice L3.a3 b.pd.length L3.c3,.slice L3.a4 b.fo.length L3.c4,.slice L3.a5 b.ac.length L3.c5,.int .i64 b.tu,.int .i64 b.un,.int .i64 b.ra,.int .i64 b.li]);have O36:=Lib.hid (ho.below (bl_alloc (bl_refl w5) (.cells ([.slice L3.a1 b.st.length L3.c1,.slice L3.a2 b.bt.length L3.c2,.slice L3.a3 b.pd.length L3.c3,.slice L3.a4 b.fo.length L3.c4,.slice L3.a5 b.ac.length L3.c5,.int .i64 b.tu,.int .i64 b.un,.int .i64 b.ra,.int .i64 b.li] : List Value).toArray 27)));have HI3:=Lib.hid ho.hi;have lo3:=Lib.hid hb.size;have gx6 : Hid (w5.heap.size ≤ (w5.alloc (.cells ([.slice L3.a1 b.st.length L3.c1,.slice L3.a2 b.bt.length L3.c2,.slice L3.a3 b.pd.length L3.c3,.slice L3.a4 b.fo.length L3.c4,.slice L3.a5 b.ac.length L3.c5,.int .i64 b.tu,.int .i64 b.un,.int .i64 b.ra,.int .i64 b.li] : List Value).toArray 27)).heap.size):=Lib.hid (by rw [World.size_alloc];omega);have SW6:=Lib.hid (SW3.out.below hx);have NA6:=Lib.hid (NA3.out.below hx);have BW6:=Lib.hid (bl_trans BW3.out hx);clear ho hb hx SW3 NA3 BW3;have NXb:=NX6.out;obtain ⟨x0,-⟩:=NXb.cell 0 _ rfl;obtain ⟨x1,-⟩:=NXb.cell 1 _ rfl;obtain ⟨x2,-⟩:=NXb.cell 2 _ rfl;obtain ⟨x3,-⟩:=NXb.cell 3 _ rfl;obtain ⟨x4,-⟩:=NXb.cell 4 _ rfl;obtain ⟨x5,-⟩:=NXb.cell 5 _ rfl;obtain ⟨x6,-⟩:=NXb.cell 6 _ rfl;obtain ⟨x7,-⟩:=NXb.cell 7 _ rfl;obtain ⟨x8,-⟩:=NXb.cell 8 _ rfl;clear NXb)
  | (go_at_call 43;refine (K2.out L3 _ O36.out.rd Y2 d2 RY2.out.rd).mono ?_;rintro e w7 ⟨L4,rfl,ho,hb⟩;have hx:=bl_trans hb (bl_alloc (bl_refl w7) (.cells ([.slice L4.a1 r.st.length L4.c1,.slice L4.a2 r.bt.length L4.c2,.slice L4.a3 r.pd.length L4.c3,.slice L4.a4 r.fo.length L4.c4,.slice L4.a5 r.ac.length L4.c5,.int .i64 r.tu,.int .i64 r.un,.int .i64 r.ra,.int .i64 r.li] : List Value).toArray 27));have SG8:=Lib.hid (St.rowsBox (W'':=w) ho (Nat.le_refl _) (Nat.le_refl _) (bl_alloc (bl_refl w7) (.cells ([.slice L4.a1 r.st.length L4.c1,.slice L4.a2 r.bt.length L4.c2,.slice L4.a3 r.pd.length L4.c3,.slice L4.a4 r.fo.length L4.c4,.slice L4.a5 r.ac.length L4.c5,.int .i64 r.tu,.int .i64 r.un,.int .i64 r.ra,.int .i64 r.li] : List Value).toArray 27)) (blk_new w7 27 [.slice L4.a1 r.st.length L4.c1,.slice L4.a2 r.bt.length L4.c2,.slice L4.a3 r.pd.length L4.c3,.slice L4.a4 r.fo.length L4.c4,.slice L4.a5 r.ac.length L4.c5,.int .i64 r.tu,.int .i64 r.un,.int .i64 r.ra,.int .i64 r.li]) hb.size);have SW8:=Lib.hid (SW6.out.below hx);have NA8:=Lib.hid (NA6.out.below hx);have NX8:=Lib.hid (NX6.out.below hx);have O38:=Lib.hid (O36.out.below hx);replace RY2:=Lib.hid (RY2.out.below hx);have BW8:=Lib.hid (bl_trans BW6.out hx);clear ho hb hx SW6 NA6 NX6 O36 BW6;have SWb:=SW8.out.blk;have SGb:=SG8.out.blk;obtain ⟨a0,-⟩:=SWb.cell 0 _ rfl;obtain ⟨a1,-⟩:=SWb.cell 1 _ rfl;obtain ⟨a2,-⟩:=SWb.cell 2 _ rfl;obtain ⟨a3,-⟩:=SWb.cell 3 _ rfl;obtain ⟨a4,-⟩:=SWb.cell 4 _ rfl;obtain ⟨a5,-⟩:=SWb.cell 5 _ rfl;obtain ⟨a6,-⟩:=SWb.cell 6 _ rfl;obtain ⟨a7,-⟩:=SWb.cell 7 _ rfl;obtain ⟨a8,-⟩:=SWb.cell 8 _ rfl;obtain ⟨g0,-⟩:=SGb.cell 0 _ rfl;obtain ⟨g1,-⟩:=SGb.cell 1 _ rfl;obtain ⟨g2,-⟩:=SGb.cell 2 _ rfl;obtain ⟨g3,-⟩:=SGb.cell 3 _ rfl;obtain ⟨g4,-⟩:=SGb.cell 4 _ rfl;obtain ⟨g5,-⟩:=SGb.cell 5 _ rfl;obtain ⟨g6,-⟩:=SGb.cell 6 _ rfl;obtain ⟨g7,-⟩:=SGb.cell 7 _ rfl;obtain ⟨g8,-⟩:=SGb.cell 8 _ rfl;clear SWb SGb)
  | (go_at_call 54;refine (eqBetting_same _ _ r _ SG8.out.rows.rd SW8.out.rows.rd mr).mono ?_;rintro e w9 ⟨rfl,hb⟩;have NA:=Lib.hid (NA8.out.below hb);have SWn:=Lib.hid (SW8.out.below hb);have SGn:=Lib.hid (SG8.out.below hb);have NX:=Lib.hid (NX8.out.below hb);have O3:=Lib.hid (O38.out.below hb);replace RY2:=Lib.hid (RY2.out.below hb);have BW9:=Lib.hid (bl_trans BW8.out hb);clear hb))
 clear NA8 SW8 SG8 NX8 O38 BW8
 refine wp_region_W (last:=4) (k:=4) hmx rfl (fun HC0=>?_)
 refine wpAnyR_takeL (i:=0) (kw:=3) (v:=.agg #[.slice L3.a1 b.st.length L3.c1,.slice L3.a2 b.bt.length L3.c2,.slice L3.a3 b.pd.length L3.c3,.slice L3.a4 b.fo.length L3.c4,.slice L3.a5 b.ac.length L3.c5,.int .i64 b.tu,.int .i64 b.un,.int .i64 b.ra,.int .i64 b.li]) (fun _=>bl_refl _) (fun p q=>bl_trans p q) rfl rfl (by kernel_rfl) (by kernel_rfl) (by kernel_rfl) (by kernel_rfl) (fun _ _ _ h=>h) HC0 (Or.inl ⟨by kernel_rfl,fun W' hI=>?_⟩) (fun HC1=>?_)
 ·have hv:=(NX.out).below hI
  obtain ⟨z0,-⟩:=hv.cell 0 _ rfl;obtain ⟨z1,-⟩:=hv.cell 1 _ rfl;obtain ⟨z2,-⟩:=hv.cell 2 _ rfl;obtain ⟨z3,-⟩:=hv.cell 3 _ rfl;obtain ⟨z4,-⟩:=hv.cell 4 _ rfl;obtain ⟨z5,-⟩:=hv.cell 5 _ rfl;obtain ⟨z6,-⟩:=hv.cell 6 _ rfl;obtain ⟨z7,-⟩:=hv.cell 7 _ rfl;obtain ⟨z8,-⟩:=hv.cell 8 _ rfl
  exact .inl (by go_simp)
 refine wpAnyR_takeL (i:=1) (kw:=4) (v:=.agg #[.slice L.a1 b.st.length L.c1,.slice L.a2 b.bt.length L.c2,.slice L.a3 b.pd.length L.c3,.slice L.a4 b.fo.length L.c4,.slice L.a5 b.ac.length L.c5,.int .i64 b.tu,.int .i64 b.un,.int .i64 b.ra,.int .i64 b.li]) (fun _=>bl_refl _) (fun p q=>bl_trans p q) rfl rfl (by kernel_rfl) (by kernel_rfl) (by kernel_rfl) (by kernel_rfl) (fun _ _ _ h=>h) HC1 (Or.inl ⟨by kernel_rfl,fun W' hI=>?_⟩) (fun HC2=>?_)
 ·have hv:=(NA.out).below hI
  obtain ⟨z0,-⟩:=hv.cell 0 _ rfl;obtain ⟨z1,-⟩:=hv.cell 1 _ rfl;obtain ⟨z2,-⟩:=hv.cell 2 _ rfl;obtain ⟨z3,-⟩:=hv.cell 3 _ rfl;obtain ⟨z4,-⟩:=hv.cell 4 _ rfl;obtain ⟨z5,-⟩:=hv.cell 5 _ rfl;obtain ⟨z6,-⟩:=hv.cell 6 _ rfl;obtain ⟨z7,-⟩:=hv.cell 7 _ rfl;obtain ⟨z8,-⟩:=hv.cell 8 _ rfl
  exact .inl (by go_simp)
 refine wpAnyR_oneL HC2 (i:=2) (by kernel_rfl) rfl (by kernel_rfl) (fun wa hr=>⟨bl_drewT hr,?_⟩)
 intro K hK
 have XA:=Lib.hid (bl_drewT hr)
 clear hr
 go_simp
 go_wp2_with (go_at_call 60;refine (KT.out _ (bl_trans BW9.out XA.out)).mono ?_;rintro e wb ⟨LE,rfl,ho,hb⟩;have OE:=Lib.hid ho.rd;have XB:=Lib.hid (bl_trans XA.out hb);clear ho hb)
 intro HC3
 refine wpAnyR_oneL HC3 (i:=3) (by kernel_rfl) rfl (by kernel_rfl) (fun wc2 hr=>⟨bl_trans XB.out hr,?_⟩)
 intro K hK
 have XC:=Lib.hid (bl_trans XB.out hr)
 have OEc:=Lib.hid (OE.out.below hr)
 clear hr
 go_simp
 go_wp2_with (go_at_call 54;refine (eqBetting_same _ _ b _ (O3.out.rd.below XC.out) OEc.out m).mono ?_;rintro e wd2 ⟨rfl,hb⟩;have XD:=Lib.hid (bl_trans XC.out hb);clear hb)
 intro HC4
 refine wpAnyR_lastL (by kernel_rfl) (by kernel_rfl) rfl (by kernel_rfl) (fun we hr=>⟨bl_trans XD.out hr,?_⟩)
 intro K hK
 have XE:=Lib.hid (bl_trans XD.out hr)
 clear hr XA XB XC XD OE OEc
 go_simp
 refine hK _ _ ?_
 clear hK K
 have NAe:=Lib.hid (NA.out.below XE.out)
 have SWe:=Lib.hid (SWn.out.below XE.out)
 have SGe:=Lib.hid (SGn.out.below XE.out)
 have NXe:=Lib.hid (NX.out.below XE.out)
 have O3e:=Lib.hid (O3.out.below XE.out)
 have RYe:=Lib.hid (RY2.out.below XE.out)
 have BWe:=Lib.hid (bl_trans BW9.out XE.out)
 clear NA SWn SGn NX O3 BW9 XE RY2
 have NXb:=NXe.out
 obtain ⟨x0,-⟩:=NXb.cell 0 _ rfl;obtain ⟨x1,-⟩:=NXb.cell 1 _ rfl;obtain ⟨x2,-⟩:=NXb.cell 2 _ rfl;obtain ⟨x3,-⟩:=NXb.cell 3 _ rfl;obtain ⟨x4,-⟩:=NXb.cell 4 _ rfl;obtain ⟨x5,-⟩:=NXb.cell 5 _ rfl;obtain ⟨x6,-⟩:=NXb.cell 6 _ rfl;obtain ⟨x7,-⟩:=NXb.cell 7 _ rfl;obtain ⟨x8,-⟩:=NXb.cell 8 _ rfl
 clear NXb
 go_wp2_with (first
  | (go_at_call 62;refine (KTA.out _ BWe.out).mono ?_;rintro e wp ⟨Y3,d3,rfl,hy,hb⟩;have RY3:=Lib.hid hy.rd;replace NAe:=Lib.hid (NAe.out.below hb);replace SWe:=Lib.hid (SWe.out.below hb);replace SGe:=Lib.hid (SGe.out.below hb);replace NXe:=Lib.hid (NXe.out.below hb);replace O3e:=Lib.hid (O3e.out.below hb);replace RYe:=Lib.hid (RYe.out.below hb);replace BWe:=Lib.hid (bl_trans BWe.out hb);clear hy hb)
  | (go_at_call 63;refine (eqActs_same _ _ _ _ n fl _ RYe.out.rd RY3.out HLF.out hn4).mono ?_;rintro e wq ⟨rfl,hb⟩;replace NAe:=Lib.hid (NAe.out.below hb);replace SWe:=Lib.hid (SWe.out.below hb);replace SGe:=Lib.hid (SGe.out.below hb);replace NXe:=Lib.hid (NXe.out.below hb);replace O3e:=Lib.hid (O3e.out.below hb);replace RYe:=Lib.hid (RYe.out.below hb);replace BWe:=Lib.hid (bl_trans BWe.out hb);clear hb RY3;have NXb:=NXe.out;obtain ⟨xc0,-⟩:=NXb.cell 0 _ rfl;obtain ⟨xc1,-⟩:=NXb.cell 1 _ rfl;obtain ⟨xc2,-⟩:=NXb.cell 2 _ rfl;obtain ⟨xc3,-⟩:=NXb.cell 3 _ rfl;obtain ⟨xc4,-⟩:=NXb.cell 4 _ rfl;obtain ⟨xc5,-⟩:=NXb.cell 5 _ rfl;obtain ⟨xc6,-⟩:=NXb.cell 6 _ rfl;obtain ⟨xc7,-⟩:=NXb.cell 7 _ rfl;obtain ⟨xc8,-⟩:=NXb.cell 8 _ rfl;clear NXb)
  | (go_at_call 64;(with_reducible refine (KMA.out _ _ _ _ RYf.out).mono ?_);rintro e wfa ⟨rfl,ho,hg⟩;have hs:=span_own hg HAB.out;replace SWf:=Lib.hid (SWf.out.spanA hs (by have:=hw2.out;have:=lo3.out;omega) (by have:=hw2.out;have:=lo3.out;omega));replace SGf:=Lib.hid (SGf.out.span hs (Nat.le_refl _));replace NAf:=Lib.hid (NAf.out.span hs (.inl (by have:=H2.out;have:=lo3.out;omega)));replace BWf:=Lib.hid (bl_span BWf.out hs (by have:=H2.out;have:=lo3.out;omega));clear ho hg hs RYf HAB;have SWb:=SWf.out.blk;have SGb:=SGf.out.blk;obtain ⟨sa0,-⟩:=SWb.cell 0 _ rfl;obtain ⟨sa1,-⟩:=SWb.cell 1 _ rfl;obtain ⟨sa2,-⟩:=SWb.cell 2 _ rfl;obtain ⟨sa3,-⟩:=SWb.cell 3 _ rfl;obtain ⟨sa4,-⟩:=SWb.cell 4 _ rfl;obtain ⟨sa5,-⟩:=SWb.cell 5 _ rfl;obtain ⟨sa6,-⟩:=SWb.cell 6 _ rfl;obtain ⟨sa7,-⟩:=SWb.cell 7 _ rfl;obtain ⟨sa8,-⟩:=SWb.cell 8 _ rfl;obtain ⟨sg0,-⟩:=SGb.cell 0 _ rfl;obtain ⟨sg1,-⟩:=SGb.cell 1 _ rfl;obtain ⟨sg2,-⟩:=SGb.cell 2 _ rfl;obtain ⟨sg3,-⟩:=SGb.cell 3 _ rfl;obtain ⟨sg4,-⟩:=SGb.cell 4 _ rfl;obtain ⟨sg5,-⟩:=SGb.cell 5 _ rfl;obtain ⟨sg6,-⟩:=SGb.cell 6 _ rfl;obtain ⟨sg7,-⟩:=SGb.cell 7 _ rfl;obtain ⟨sg8,-⟩:=SGb.cell 8 _ rfl;clear SWb SGb)
  | (go_at_call 62;refine (KTA.out _ BWj.out).mono ?_;rintro e wja ⟨Y4,d4,rfl,hy,hb⟩;have RY4:=Lib.hid hy.rd;replace O5:=Lib.hid (O5.out.below hb);replace SWj:=Lib.hid (SWj.out.below hb);replace NGj:=Lib.hid (NGj.out.below hb);replace MGj:=Lib.hid (MGj.out.below hb);replace BWj:=Lib.hid (bl_trans BWj.out hb);clear hy hb)
  | (go_at_call 57;(with_reducible refine (KM3.out _ _ _ _ O3e.out HI3.out).mono ?_);rintro e wf ⟨rfl,ho,hs⟩;have SWf:=Lib.hid (SWe.out.spanA hs hw2.out.1 hw2.out.2);have SGf:=Lib.hid (SGe.out.span hs gx7.out);have NAf:=Lib.hid (NAe.out.span hs (.inl (by have:=H2.out;omega)));have BWf:=Lib.hid (bl_span BWe.out hs (by have:=H2.out;omega));have RYf:=Lib.hid (RYe.out.span hs (fun y ey=>.inr (by have q1:=(HAB.out y ey).1;omega)));clear ho hs NAe SWe SGe NXe O3e BWe RYe;have SWb:=SWf.out.blk;have SGb:=SGf.out.blk;obtain ⟨a0,-⟩:=SWb.cell 0 _ rfl;obtain ⟨a1,-⟩:=SWb.cell 1 _ rfl;obtain ⟨a2,-⟩:=SWb.cell 2 _ rfl;obtain ⟨a3,-⟩:=SWb.cell 3 _ rfl;obtain ⟨a4,-⟩:=SWb.cell 4 _ rfl;obtain ⟨a5,-⟩:=SWb.cell 5 _ rfl;obtain ⟨a6,-⟩:=SWb.cell 6 _ rfl;obtain ⟨a7,-⟩:=SWb.cell 7 _ rfl;obtain ⟨a8,-⟩:=SWb.cell 8 _ rfl;obtain ⟨g0,-⟩:=SGb.cell 0 _ rfl;obtain ⟨g1,-⟩:=SGb.cell 1 _ rfl;obtain ⟨g2x,-⟩:=SGb.cell 2 _ rfl;obtain ⟨g3,-⟩:=SGb.cell 3 _ rfl;obtain ⟨g4x,-⟩:=SGb.cell 4 _ rfl;obtain ⟨g5,-⟩:=SGb.cell 5 _ rfl;obtain ⟨g6,-⟩:=SGb.cell 6 _ rfl;obtain ⟨g7,-⟩:=SGb.cell 7 _ rfl;obtain ⟨g8,-⟩:=SGb.cell 8 _ rfl;clear SWb SGb)
  | (go_at_call 54;refine (eqBetting_same L4 L2 r _ SGf.out.rows.rd SWf.out.rows.rd mr).mono ?_;rintro e wg ⟨rfl,hb⟩;have NAg:=Lib.hid (NAf.out.below hb);have SWg:=Lib.hid (SWf.out.below hb);have SGg:=Lib.hid (SGf.out.below hb);have BWg:=Lib.hid (bl_trans BWf.out hb);clear hb NAf SWf SGf BWf;have SGc:=SGg.out.blk;obtain ⟨h0,-⟩:=SGc.cell 0 _ rfl;obtain ⟨h1,-⟩:=SGc.cell 1 _ rfl;obtain ⟨h2,-⟩:=SGc.cell 2 _ rfl;obtain ⟨h3,-⟩:=SGc.cell 3 _ rfl;obtain ⟨h4,-⟩:=SGc.cell 4 _ rfl;obtain ⟨h5,-⟩:=SGc.cell 5 _ rfl;obtain ⟨h6,-⟩:=SGc.cell 6 _ rfl;obtain ⟨h7,-⟩:=SGc.cell 7 _ rfl;obtain ⟨h8,-⟩:=SGc.cell 8 _ rfl;clear SGc)
  | (go_at_call 57;(with_reducible refine (KM4.out _ _ _ _ SGg.out.rows SGg.out.hi5).mono ?_);rintro e wh ⟨rfl,ho,hs⟩;have MG:=Lib.hid ho;have NG:=Lib.hid (SGg.out.blk.span hs SGg.out.ap);have hlg:=SGg.out.lo0;have SWh:=Lib.hid (SWg.out.spanA hs (by have:=hw2.out;have:=lo3.out;have:=gx7.out;omega) (by have:=hw2.out;have:=lo3.out;have:=gx7.out;omega));have NAh:=Lib.hid (NAg.out.span hs (.inl (by have:=H2.out;have:=lo3.out;have:=gx7.out;omega)));have BWh:=Lib.hid (bl_span BWg.out hs (by have:=H2.out;have:=lo3.out;have:=gx7.out;omega));clear ho hs hlg NAg SWg SGg BWg;have NGc:=NG.out;obtain ⟨j0,-⟩:=NGc.cell 0 _ rfl;obtain ⟨j1,-⟩:=NGc.cell 1 _ rfl;obtain ⟨j2,-⟩:=NGc.cell 2 _ rfl;obtain ⟨j3,-⟩:=NGc.cell 3 _ rfl;obtain ⟨j4,-⟩:=NGc.cell 4 _ rfl;obtain ⟨j5,-⟩:=NGc.cell 5 _ rfl;obtain ⟨j6,-⟩:=NGc.cell 6 _ rfl;obtain ⟨j7,-⟩:=NGc.cell 7 _ rfl;obtain ⟨j8,-⟩:=NGc.cell 8 _ rfl;clear NGc)
  | (go_at_call 58;(with_reducible refine (KH4.out _ _ MG.out.rd).mono ?_);rintro e wi ⟨rfl,hb⟩;have MGi:=Lib.hid (MG.out.below hb);have NGi:=Lib.hid (NG.out.below hb);have SWi:=Lib.hid (SWh.out.below hb);have NAi:=Lib.hid (NAh.out.below hb);have BWi:=Lib.hid (bl_trans BWh.out hb);clear hb MG NG SWh NAh BWh;have NAb:=NAi.out;obtain ⟨n0,-⟩:=NAb.cell 0 _ rfl;obtain ⟨n1,-⟩:=NAb.cell 1 _ rfl;obtain ⟨n2,-⟩:=NAb.cell 2 _ rfl;obtain ⟨n3,-⟩:=NAb.cell 3 _ rfl;obtain ⟨n4,-⟩:=NAb.cell 4 _ rfl;obtain ⟨n5,-⟩:=NAb.cell 5 _ rfl;obtain ⟨n6,-⟩:=NAb.cell 6 _ rfl;obtain ⟨n7,-⟩:=NAb.cell 7 _ rfl;obtain ⟨n8,-⟩:=NAb.cell 8 _ rfl;clear NAb)
  | (go_at_call 60;refine (KT.out _ BWi.out).mono ?_;rintro e wj ⟨L5,rfl,ho,hb⟩;have O5:=Lib.hid ho.rd;have SWj:=Lib.hid (SWi.out.below hb);have NGj:=Lib.hid (NGi.out.below hb);have MGj:=Lib.hid (MGi.out.below hb);have BWj:=Lib.hid (bl_trans BWi.out hb);clear ho hb SWi NGi MGi BWi)
  | (go_at_call 43;refine (K2.out L5 _ O5.out Y4 d4 RY4.out).mono ?_;rintro e wk ⟨L6,rfl,ho,hb⟩;have hx:=bl_trans hb (bl_alloc (bl_refl wk) (.cells ([.slice L6.a1 r.st.length L6.c1,.slice L6.a2 r.bt.length L6.c2,.slice L6.a3 r.pd.length L6.c3,.slice L6.a4 r.fo.length L6.c4,.slice L6.a5 r.ac.length L6.c5,.int .i64 r.tu,.int .i64 r.un,.int .i64 r.ra,.int .i64 r.li] : List Value).toArray 27));have SHk:=Lib.hid (St.rowsBox (W'':=w) ho (Nat.le_refl _) (Nat.le_refl _) (bl_alloc (bl_refl wk) (.cells ([.slice L6.a1 r.st.length L6.c1,.slice L6.a2 r.bt.length L6.c2,.slice L6.a3 r.pd.length L6.c3,.slice L6.a4 r.fo.length L6.c4,.slice L6.a5 r.ac.length L6.c5,.int .i64 r.tu,.int .i64 r.un,.int .i64 r.ra,.int .i64 r.li] : List Value).toArray 27)) (blk_new wk 27 [.slice L6.a1 r.st.length L6.c1,.slice L6.a2 r.bt.length L6.c2,.slice L6.a3 r.pd.length L6.c3,.slice L6.a4 r.fo.length L6.c4,.slice L6.a5 r.ac.length L6.c5,.int .i64 r.tu,.int .i64 r.un,.int .i64 r.ra,.int .i64 r.li]) hb.size);have SWk:=Lib.hid (SWj.out.below hx);have NGk:=Lib.hid (NGj.out.below hx);have MGk:=Lib.hid (MGj.out.below hx);have BWk:=Lib.hid (bl_trans BWj.out hx);clear ho hb hx SWj NGj MGj BWj;have SWb:=SWk.out.blk;have SHb:=SHk.out.blk;obtain ⟨o0,-⟩:=SWb.cell 0 _ rfl;obtain ⟨o1,-⟩:=SWb.cell 1 _ rfl;obtain ⟨o2,-⟩:=SWb.cell 2 _ rfl;obtain ⟨o3,-⟩:=SWb.cell 3 _ rfl;obtain ⟨o4,-⟩:=SWb.cell 4 _ rfl;obtain ⟨o5,-⟩:=SWb.cell 5 _ rfl;obtain ⟨o6,-⟩:=SWb.cell 6 _ rfl;obtain ⟨o7,-⟩:=SWb.cell 7 _ rfl;obtain ⟨o8,-⟩:=SWb.cell 8 _ rfl;obtain ⟨p0,-⟩:=SHb.cell 0 _ rfl;obtain ⟨p1,-⟩:=SHb.cell 1 _ rfl;obtain ⟨p2,-⟩:=SHb.cell 2 _ rfl;obtain ⟨p3,-⟩:=SHb.cell 3 _ rfl;obtain ⟨p4,-⟩:=SHb.cell 4 _ rfl;obtain ⟨p5,-⟩:=SHb.cell 5 _ rfl;obtain ⟨p6,-⟩:=SHb.cell 6 _ rfl;obtain ⟨p7,-⟩:=SHb.cell 7 _ rfl;obtain ⟨p8,-⟩:=SHb.cell 8 _ rfl;clear SWb SHb)
  | (go_at_call 54;refine (eqBetting_same L6 L2 r _ SHk.out.rows.rd SWk.out.rows.rd mr).mono ?_;rintro e wl ⟨rfl,hb⟩;have NGl:=Lib.hid (NGk.out.below hb);have MGl:=Lib.hid (MGk.out.below hb);have BWl:=Lib.hid (bl_trans BWk.out hb);clear hb SHk SWk;have NGc:=NGl.out;obtain ⟨y0,-⟩:=NGc.cell 0 _ rfl;obtain ⟨y1,-⟩:=NGc.cell 1 _ rfl;obtain ⟨y2,-⟩:=NGc.cell 2 _ rfl;obtain ⟨y3,-⟩:=NGc.cell 3 _ rfl;obtain ⟨y4,-⟩:=NGc.cell 4 _ rfl;obtain ⟨y5,-⟩:=NGc.cell 5 _ rfl;obtain ⟨y6,-⟩:=NGc.cell 6 _ rfl;obtain ⟨y7,-⟩:=NGc.cell 7 _ rfl;obtain ⟨y8,-⟩:=NGc.cell 8 _ rfl;clear NGc)
  | (go_at_call 58;(with_reducible refine (KH4.out _ _ MGl.out.rd).mono ?_);rintro e wm ⟨rfl,hb⟩;have BWm:=Lib.hid (bl_trans BWl.out hb);clear hb))
 go_ret
 exact ⟨rfl,BWm.out⟩


theorem walkRunActions (L : At5) (b : Bt) (A : Option Addr) (cA n : Nat) (fl : List Int) (w : World) (hm : Mx b) (hr : Rd5 w L b) (hA : Rd w A fl) (hl : fl.length = n * 2) (hnm : n ≤ maxLen) :
  Calls Try.prog 10 #[bV L b,.slice A n cA] w (Fresh (.bool true) w):=by
 by_cases h : (1048576 : Int) - (b.st.length : Int) - (b.bt.length : Int) - (b.pd.length : Int) - (b.fo.length : Int) - (b.ac.length : Int) < 0
 ·exact walkRunActions_big L b A cA n fl w hm h
 by_cases h2 : (1048576 : Int) - (b.st.length : Int) - (b.bt.length : Int) - (b.pd.length : Int) - (b.fo.length : Int) - (b.ac.length : Int) - (n : Int) < 0
 ·exact walkRunActions_far L b A cA n fl w (by omega) hnm h2
 ·exact walkRunActions_in L b A cA n fl w hr (by omega) ⟨by omega,by omega,by omega,by omega,by omega⟩ hA hl (by omega) hnm

set_option maxRecDepth 100000 in
theorem fnExactRunActions_lifted (os : Go.Os) (started : os.Started) (H : Type) (enc : TypeId × Value → H) :
  ReturnsInHanded {} Try.checked os 10 .any (Rows.fnExactRunActionsSpec.pre6 enc Try.prog Try.f10 Rows.fnExactRunActionsRow.domain false) (Rows.fnExactRunActionsSpec.post enc Try.prog Try.f10 false true false false):=by
 refine law_lifted started (by kernel_rfl) Try.func10 (by kernel_rfl) rfl (fun ds h=>?_) ?_
  (ChangeSpec.witness6 (enc:=enc) (C:=Try.checked) false ⟨#[],#[.agg #[.slice none 0 0,.slice none 0 0,.slice none 0 0,.slice none 0 0,.slice none 0 0,.int .i64 0,.int .i64 0,.int .i64 0,.int .i64 0],.slice none 0 0],[]⟩ 8 (by kernel_rfl) (by kernel_rfl) (by kernel_rfl) (by kernel_rfl)) ?_
 ·match ds,h with
  | [d0,d1],_=>rfl
 ·rw [Try.params10]
  intro t ht
  rcases (show t = 70 ∨ t = 74 by simpa using ht) with rfl | rfl <;> exact ⟨by kernel_rfl,of_decide_eq_true (by kernel_rfl)⟩
 ·intro W base args ds ps hval hA
  rw [Try.params10] at hA hval
  obtain ⟨v0,v1,d0,d1,p0,p1,rfl,rfl,rfl,h0,h1⟩:=trodAll_two hA
  obtain ⟨L0,b0,rfl,r0,m0,i0a,i0b,i0c,i0d⟩:=open_betting (hval 0 70 v0 rfl rfl) h0
  obtain ⟨A1,cA1,n1,fl1,rfl,mn1,hl1,ra1⟩:=open_acts (hval 1 74 v1 rfl rfl) h1
  exact walkRunActions L0 b0 A1 cA1 n1 fl1 W m0 r0 ra1 hl1 mn1

/-- RunActions answers as its model,for every round and every list of actions. -/
theorem fnExactRunActions_holds : Rows.FnExactRunActionsSaid :=
 OpenClaim.holds_of_wide 10 Try.f10 rfl rfl rfl rfl rfl rfl rfl ⟨rfl,rfl,rfl,rfl,rfl⟩ rfl rfl rfl rfl rfl (by kernel_rfl) Try.func10 (by kernel_rfl)
  (of_decide_eq_true (by kernel_rfl)) (by unfold Func.isWrapper;first | (rw [if_pos (by decide +kernel)];kernel_rfl) | (rw [if_neg (by decide +kernel)];exact ⟨rfl,rfl⟩))
  (fun os started H enc _=>fnExactRunActions_lifted os started H enc)

end Go.Proofs.Ytnllndcajdofjaa
