/-
 The model: the round behind an action.
-/
import Derived.Test.YtnllndcajdofjaaQbSpecBetO
import Derived.Test.YtnllndcajdofjaaQbSpecBetNG
import Derived.Test.YtnllndcajdofjaaQbBetDoG
import Derived.Test.YtnllndcajdofjaaQbBetApply
namespace Go.Proofs.Ytnllndcajdofjaa
open Go.RowKit
set_option linter.unusedVariables false

theorem nxtG_at (d : Bt) (i : Int) (h : d.tu = i) : turnB d = { d with tu:=nxtG d i }:=by subst h;rfl
theorem unit_fix {b : Bt} {x : Int} (h : Ok b) (hl : legB b 3 x = true) (hf : fullB b x = true) (h2 : b.li = 2) : x - topI b = b.un:=by
 obtain ⟨i,ht⟩:=Int.eq_ofNat_of_zero_le h.t0
 have q1 : b.un ≤ x - topI b:=by unfold fullB at hf;exact of_decide_eq_true hf
 rcases leg_cases hl with ⟨q,_⟩ | ⟨q,_⟩ | ⟨q,_⟩ | ⟨_,hm,h0,h1⟩
 ·omega
 ·omega
 ·omega
 ·obtain ⟨hmy,_⟩:=raise_facts h ht hm
  have e : mostI b = minT (allIn b) (topI b + b.un):=by unfold mostI mostR;rw [if_pos hmy,if_neg (by omega),if_pos h2]
  have:=minT_le (allIn b) (topI b + b.un)
  omega
/-- As NewBt,its value written out. -/
def NewBx (b : Bt) (w : World) (e : Ending) (w' : World) : Prop:=∃ L : At5,e = .returned (.agg #[.slice L.a1 b.st.length L.c1,.slice L.a2 b.bt.length L.c2,.slice L.a3 b.pd.length L.c3,.slice L.a4 b.fo.length L.c4,.slice L.a5 b.ac.length L.c5,.int .i64 b.tu,.int .i64 b.un,.int .i64 b.ra,.int .i64 b.li]) ∧ Row5 w' w.heap.size L b ∧ Below w.heap.size w w'
theorem l10OwnX_any (L : At5) (b : Bt) (w : World) (h : Rd5 w L b) (m : Sm b) : Calls Try.prog 112 #[bV L b] w (NewBx b w):=(l10Own_any L b w h m).mono fun e w' h=>h
theorem Row.cellE {w : World} {lo : Nat} {A : Option Addr} {g off : Nat} {xs : List Int} (h : Row w lo A xs) (e : A = some ⟨g,off,none⟩) (k : Nat) (hk : k < xs.length) : w.cell? ⟨g,off + k,none⟩ = some (.int .i64 (nth xs k)) ∧ w.frozen? ⟨g,off + k,none⟩ = false:=by subst e;exact h.cellAt k hk
theorem RowB.cellE {w : World} {lo : Nat} {A : Option Addr} {g off : Nat} {xs : List Bool} (h : RowB w lo A xs) (e : A = some ⟨g,off,none⟩) (k : Nat) (hk : k < xs.length) : w.cell? ⟨g,off + k,none⟩ = some (.bool (nthB xs k)) ∧ w.frozen? ⟨g,off + k,none⟩ = false:=by subst e;exact h.cellAt k hk
theorem RowB.cellE0 {w : World} {lo : Nat} {A : Option Addr} {g : Nat} {xs : List Bool} (h : RowB w lo A xs) (e : A = some ⟨g,0,none⟩) (k : Nat) (hk : k < xs.length) : w.cell? ⟨g,k,none⟩ = some (.bool (nthB xs k)) ∧ w.frozen? ⟨g,k,none⟩ = false:=by
 have:=h.cellE e k hk
 rwa [Nat.zero_add] at this
theorem NC.setAc0 {w : World} {lo g : Nat} {L : At5} {b : Bt} (h : NC w lo g L b) {gf : Nat} (e : L.a5 = some ⟨gf,0,none⟩) (k : Nat) (hk : k < b.ac.length) (v : Bool) :
  NC (w.setCell ⟨gf,k,none⟩ (.bool v)) lo g L { b with ac:=b.ac.set k v } ∧ Frm lo w (w.setCell ⟨gf,k,none⟩ (.bool v)):=by
 have:=h.setAc e k hk v
 rwa [Nat.zero_add] at this
set_option maxRecDepth 100000 in
set_option maxHeartbeats 6000000 in
theorem l10Apply_any (L : At5) (b : Bt) (k x : Int) (w : World) (h : Rd5 w L b) (kk : Ok b) (hl : legB b k x = true) :
  Calls Try.prog 90 #[bV L b,.agg #[.int .i64 k,.int .i64 x]] w (NewBt (appB b k x) w):=by
 have hmx : Try.prog.follows .mixedOrders = true:=by kernel_rfl
 have iB : (Try.prog.info? 27).map (·.size) = some 9:=by kernel_rfl
 have i1 : (Try.prog.info? 2).map (·.size) = some 1:=by kernel_rfl
 have i1t : (Try.prog.info? 25).map (·.size) = some 1:=by kernel_rfl
 obtain ⟨i,hi⟩:=Int.eq_ofNat_of_zero_le kk.t0
 have hn : b.tu.toNat = i:=by rw [hi];rfl
 have hil : i < b.st.length:=by have:=kk.t1;omega
 have l2:=kk.l2
 have l4:=kk.l4
 have l5:=kk.l5
 have n6:=kk.n6
 have hil2 : i < b.bt.length:=by omega
 have hil4 : i < b.fo.length:=by omega
 have hil5 : i < b.ac.length:=by omega
 have d1 : (i : Int) < b.st.length:=by omega
 have d2 : (i : Int) < b.bt.length:=by omega
 have d4 : (i : Int) < b.fo.length:=by omega
 have d5 : (i : Int) < b.ac.length:=by omega
 obtain ⟨X,ex⟩ : ∃ X : Int,X = nth b.st i:=⟨_,rfl⟩
 obtain ⟨Y,ey⟩ : ∃ Y : Int,Y = nth b.bt i:=⟨_,rfl⟩
 obtain ⟨t,et⟩ : ∃ t : Int,t = topI b:=⟨_,rfl⟩
 have EX:=Lib.hid ex
 have EY:=Lib.hid ey
 have bX : 0 ≤ X ∧ X ≤ 600000:=by rw [ex];exact kk.s1 i hil
 have bY : 0 ≤ Y ∧ Y ≤ 600000:=by rw [ey];exact kk.s2 i hil2
 have bt1 : 0 ≤ t ∧ t ≤ 600000:=by rw [et];exact top_bd kk.sd
 have bT : Y ≤ t:=by rw [ey,et];exact top_ge _ hil2
 have hsd:=sd_act kk hl
 have KM:=Lib.hid (fun (L : At5) (W : World) (hW : Rd5 W L b)=>l10Match_any L b W hW (by omega))
 rw [← et] at KM
 have HK4:=leg_cases hl
 have HAPB : ∀ d : Bt,d = setAc (actB b k x) → Sd d ∧ appB b k x = { d with tu:=nxtG d i }:=fun d hd=>by
  have ht : d.tu = (i : Int):=by rw [hd];show (actB b k x).tu = _;rw [hsd.2.1,hi]
  refine ⟨by rw [hd];exact hsd.1,?_⟩
  have:=nxtG_at d i ht
  rw [← this,hd]
  rfl
 clear hsd
 have HI:=Lib.hid hi
 rcases HK4 with hk | hk | hk | hk
 ·obtain ⟨rfl,rfl⟩:=hk
  obtain ⟨c,ec⟩ : ∃ c : Bt,c = { b with fo:=b.fo.set i true }:=⟨_,rfl⟩
  have LS : Hid (i < c.st.length ∧ i < c.bt.length ∧ (i : Int) < c.st.length ∧ (i : Int) < c.bt.length):=Lib.hid (by rw [ec];exact ⟨hil,hil2,d1,d2⟩)
  have XC : Hid (nth c.st i = X):=Lib.hid (by rw [ec];exact EX.out.symm)
  have YC : Hid (nth c.bt i = Y):=Lib.hid (by rw [ec];exact EY.out.symm)
  have LA : Hid (i < c.ac.length ∧ (i : Int) < c.ac.length):=Lib.hid (by rw [ec];exact ⟨hil5,d5⟩)
  obtain ⟨z,ez⟩ : ∃ z : Int,z = Y:=⟨_,rfl⟩
  have HD : Hid (∀ d : Bt,d = { c with st:=c.st.set i (X - (z - Y)),bt:=c.bt.set i z,ac:=c.ac.set i true } → Sd d ∧ appB b 0 0 = { d with tu:=nxtG d i }):=Lib.hid (fun d hd=>HAPB d (by
   rw [hd,ec,ez]
   show ({ b with st:=b.st.set i (X - (Y - Y)),bt:=b.bt.set i Y,fo:=b.fo.set i true,ac:=b.ac.set i true } : Bt) = _
   rw [set_self b.st i _ (by omega),set_self b.bt i _ ey]
   unfold setAc actB foldB
   simp [hn]))
  have EC:=Lib.hid ec
  have EZ:=Lib.hid ez
  have bz : -10000000 ≤ z ∧ z ≤ 10000000:=by omega
  clear ec HAPB et ex ey hl hn l2 l4 l5 ez
  have b1:=bl_box (w:=w) (L:=L) (b:=b)
  have b2:=bl_alloc (bl_refl (w.alloc (.cells (btL L b).toArray 27))) (.cells ([.int .i64 0,.int .i64 0] : List Value).toArray 34)
  have b3:=bl_alloc (bl_refl ((w.alloc (.cells (btL L b).toArray 27)).alloc (.cells ([.int .i64 0,.int .i64 0] : List Value).toArray 34))) (.cells ([.slice none 0 0,.slice none 0 0,.slice none 0 0,.slice none 0 0,.slice none 0 0,.int .i64 0,.int .i64 0,.int .i64 0,.int .i64 0] : List Value).toArray 27)
  have BT:=((btAt_new h).below b2).below b3
  have n1:=blk_new (w.alloc (.cells (btL L b).toArray 27)) 34 [.int .i64 0,.int .i64 0]
  rw [World.size_alloc] at n1
  have n2:=blk_new ((w.alloc (.cells (btL L b).toArray 27)).alloc (.cells ([.int .i64 0,.int .i64 0] : List Value).toArray 34)) 27 [.slice none 0 0,.slice none 0 0,.slice none 0 0,.slice none 0 0,.slice none 0 0,.int .i64 0,.int .i64 0,.int .i64 0,.int .i64 0]
  rw [World.size_alloc,World.size_alloc] at n2
  have B:=Lib.hid (bl_trans (bl_trans b1 b2) b3)
  have NA:=Lib.hid (n1.below b3)
  have NR:=Lib.hid n2
  have NX:=Lib.hid BT.blk
  have RX:=Lib.hid BT.rd
  have KO:=Lib.hid (l10OwnX_any L b _ BT.rd kk.sm)
  have BT1:=BT.blk
  obtain ⟨lo,elo⟩ : ∃ lo,lo = (((w.alloc (.cells (btL L b).toArray 27)).alloc (.cells ([.int .i64 0,.int .i64 0] : List Value).toArray 34)).alloc (.cells ([.slice none 0 0,.slice none 0 0,.slice none 0 0,.slice none 0 0,.slice none 0 0,.int .i64 0,.int .i64 0,.int .i64 0,.int .i64 0] : List Value).toArray 27)).heap.size:=⟨_,rfl⟩
  have hlo : w.heap.size + 1 + 1 < lo:=by rw [elo];simp only [World.size_alloc];omega
  obtain ⟨q0,-⟩:=BT1.cell 0 _ rfl
  obtain ⟨q1,-⟩:=BT1.cell 1 _ rfl
  obtain ⟨q2,-⟩:=BT1.cell 2 _ rfl
  obtain ⟨q3,-⟩:=BT1.cell 3 _ rfl
  obtain ⟨q4,-⟩:=BT1.cell 4 _ rfl
  obtain ⟨q5,-⟩:=BT1.cell 5 _ rfl
  obtain ⟨q6,-⟩:=BT1.cell 6 _ rfl
  obtain ⟨q7,-⟩:=BT1.cell 7 _ rfl
  obtain ⟨q8,-⟩:=BT1.cell 8 _ rfl
  clear BT1 n1 n2 b1 b2 b3
  clear hi
  unfold bV at *
  go_enter Try.func90,Try.ntmps90
  go_wp2_with ((go_at_call 112;refine KO.out.mono ?_;rintro e w4 ⟨M,rfl,hr,hb⟩;rw [← elo] at hr;have hb5:=bl_trans hb (bl_alloc (bl_refl w4) (.cells (btL M b).toArray 27));have N5:=Lib.hid (NC.new hr (by rw [elo];exact hb.size));have NX5:=Lib.hid (NX.out.below hb5);have RX5:=Lib.hid (RX.out.below hb5);have NA5:=Lib.hid (NA.out.below hb5);have NR5:=Lib.hid (NR.out.below hb5);have B5:=Lib.hid (bl_trans B.out hb5);clear hr hb hb5))
  have GLO:=Lib.hid (And.intro hlo (Nat.le_refl lo))
  obtain ⟨g5,eg⟩ : ∃ g,g = w4.heap.size:=⟨_,rfl⟩
  obtain ⟨w5,e5⟩ : ∃ W,W = w4.alloc (.cells (btL M b).toArray 27):=⟨_,rfl⟩
  rw [← e5,← eg] at N5
  rw [← e5] at NX5 RX5 NA5 NR5 B5
  simp only [btL,List.toArray] at e5
  rw [← eg,← e5]
  clear eg e5 elo hlo KO BT NA NR NX RX B
  have NX5i : Hid (Blk w5 w.heap.size 27 [.slice L.a1 b.st.length L.c1,.slice L.a2 b.bt.length L.c2,.slice L.a3 b.pd.length L.c3,.slice L.a4 b.fo.length L.c4,.slice L.a5 b.ac.length L.c5,.int .i64 i,.int .i64 b.un,.int .i64 b.ra,.int .i64 b.li]):=Lib.hid (by have q:=NX5.out;unfold btL at q;rw [HI.out] at q;exact q)
  have KMX : Hid (∀ W : World,Rd5 W L b → Calls Try.prog 137 #[.agg #[.slice L.a1 b.st.length L.c1,.slice L.a2 b.bt.length L.c2,.slice L.a3 b.pd.length L.c3,.slice L.a4 b.fo.length L.c4,.slice L.a5 b.ac.length L.c5,.int .i64 i,.int .i64 b.un,.int .i64 b.ra,.int .i64 b.li]] W (Fresh (.int .i64 t) W)):=Lib.hid (fun W hW=>by have q:=KM.out L W hW;unfold bV at q;rw [HI.out] at q;exact q)
  refine wp_region_W (last:=5) (k:=5) hmx rfl (fun HC0=>?_)
  refine wpAnyR_takeL (i:=0) (kw:=6) (v:=.pointer (some ⟨w.heap.size,5,none⟩)) (fun _=>bl_refl _) (fun p q=>bl_trans p q) rfl rfl (by kernel_rfl) (by kernel_rfl) (by kernel_rfl) (by kernel_rfl) (fun _ _ _ h=>h) HC0 (Or.inl ⟨by kernel_rfl,fun W' hI=>?_⟩) (fun HC1=>?_)
  ·exact .inl (by go_simp)
  refine wpAnyR_takeL (i:=1) (kw:=6) (v:=.int .i64 i) (fun _=>bl_refl _) (fun p q=>bl_trans p q) rfl rfl (by kernel_rfl) (by kernel_rfl) (by kernel_rfl) (by kernel_rfl) (fun _ _ _ h=>h) HC1 (Or.inl ⟨by kernel_rfl,fun W' hI=>?_⟩) (fun HC2=>?_)
  ·have hv:=(NX5i.out).below hI
   obtain ⟨z5,_⟩:=hv.cell 5 _ rfl
   exact .inl (by go_simp)
  refine wpAnyR_takeL (i:=2) (kw:=2) (v:=.agg #[.slice L.a1 b.st.length L.c1,.slice L.a2 b.bt.length L.c2,.slice L.a3 b.pd.length L.c3,.slice L.a4 b.fo.length L.c4,.slice L.a5 b.ac.length L.c5,.int .i64 i,.int .i64 b.un,.int .i64 b.ra,.int .i64 b.li]) (fun _=>bl_refl _) (fun p q=>bl_trans p q) rfl rfl (by kernel_rfl) (by kernel_rfl) (by kernel_rfl) (by kernel_rfl) (fun _ _ _ h=>h) HC2 (Or.inl ⟨by kernel_rfl,fun W' hI=>?_⟩) (fun HC3=>?_)
  ·have hv:=(NX5i.out).below hI
   obtain ⟨z0,_⟩:=hv.cell 0 _ rfl
   obtain ⟨z1,_⟩:=hv.cell 1 _ rfl
   obtain ⟨z2,_⟩:=hv.cell 2 _ rfl
   obtain ⟨z3,_⟩:=hv.cell 3 _ rfl
   obtain ⟨z4,_⟩:=hv.cell 4 _ rfl
   obtain ⟨z5,_⟩:=hv.cell 5 _ rfl
   obtain ⟨z6,_⟩:=hv.cell 6 _ rfl
   obtain ⟨z7,_⟩:=hv.cell 7 _ rfl
   obtain ⟨z8,_⟩:=hv.cell 8 _ rfl
   exact .inl (by go_simp)
  refine wpAnyR_takeL (i:=3) (kw:=1) (v:=.int .i64 t) (fun _=>bl_refl _) (fun p q=>bl_trans p q) rfl rfl (by kernel_rfl) (by kernel_rfl) (by kernel_rfl) (by kernel_rfl) (fun _ _ _ h=>h) HC3 (Or.inl ⟨by kernel_rfl,fun W' hI=>?_⟩) (fun HC4=>?_)
  ·exact .inr ⟨137,#[.agg #[.slice L.a1 b.st.length L.c1,.slice L.a2 b.bt.length L.c2,.slice L.a3 b.pd.length L.c3,.slice L.a4 b.fo.length L.c4,.slice L.a5 b.ac.length L.c5,.int .i64 i,.int .i64 b.un,.int .i64 b.ra,.int .i64 b.li]],by go_simp,KMX.out W' (RX5.out.below hI)⟩
  refine wpAnyR_takeL (i:=4) (kw:=6) (v:=.int .i64 i) (fun _=>bl_refl _) (fun p q=>bl_trans p q) rfl rfl (by kernel_rfl) (by kernel_rfl) (by kernel_rfl) (by kernel_rfl) (fun _ _ _ h=>h) HC4 (Or.inl ⟨by kernel_rfl,fun W' hI=>?_⟩) (fun HC5=>?_)
  ·exact .inl (by go_simp)
  refine wpAnyR_lastL (by kernel_rfl) (by kernel_rfl) rfl (by kernel_rfl) (fun wR hrR=>⟨bl_drewT hrR,?_⟩)
  intro K hK
  have BR:=Lib.hid (bl_drewT hrR)
  clear hrR
  go_simp
  refine hK _ _ ?_
  clear hK K
  have N6:=Lib.hid (N5.out.below BR.out)
  have NX6:=Lib.hid (NX5i.out.below BR.out)
  have NA6:=Lib.hid (NA5.out.below BR.out)
  have NR6:=Lib.hid (NR5.out.below BR.out)
  have B6:=Lib.hid (bl_trans B5.out BR.out)
  clear N5 NX5 NX5i RX5 NA5 NR5 B5 BR KMX
  obtain ⟨b1,o1,e1,-⟩:=N6.out.rows.r1.rd.at_0 i hil
  obtain ⟨b2,o2,e2,-⟩:=N6.out.rows.r2.rd.at_0 i hil2
  obtain ⟨b4,o4,e4,-⟩:=N6.out.rows.r4.rd.at_0 i hil4
  obtain ⟨b5,o5,e5,-⟩:=N6.out.rows.r5.rd.at_0 i hil5
  have E1:=Lib.hid e1
  have E2:=Lib.hid e2
  have E4:=Lib.hid e4
  have E5:=Lib.hid e5
  clear e1 e2 e4 e5
  have cx:=(N6.out.rows.r1.cellE E1.out i hil).1
  have cy:=(N6.out.rows.r2.cellE E2.out i hil2).1
  rw [← EX.out] at cx
  rw [← EY.out] at cy
  rw [← EZ.out] at cy
  have BX6:=N6.out.blk
  unfold btL at BX6
  rw [E1.out,E2.out,E4.out,E5.out] at BX6
  obtain ⟨y0,-⟩:=BX6.cell 0 _ rfl
  obtain ⟨y1,-⟩:=BX6.cell 1 _ rfl
  obtain ⟨y3,-⟩:=BX6.cell 3 _ rfl
  obtain ⟨y7,-⟩:=BX6.cell 7 _ rfl
  obtain ⟨p0,-⟩:=NA6.out.cell 0 _ rfl
  obtain ⟨p1,-⟩:=NA6.out.cell 1 _ rfl
  clear BX6
  go_wp2_with (((with_reducible refine at_st 4 (.tmp 27) (.const (.bool true)) rfl ?_);(refine wpList_store_el 4 rfl (.tmp 27) (.const (.bool true)) rfl (by kernel_rfl) ⟨b4,o4 + i,none⟩ rfl (.bool true) rfl rfl _ (N6.out.rows.r4.cellE E4.out i hil4).1 (N6.out.rows.r4.cellE E4.out i hil4).2 ?_);have ss:=N6.out.setFo E4.out i hil4 true;obtain ⟨w7,ew⟩ : ∃ W : World,W = wR.setCell ⟨b4,o4 + i,none⟩ (.bool true):=⟨_,rfl⟩;rw [← ew] at ss ⊢;clear ew;have N7:=Lib.hid ss.1;have F7:=Lib.hid ss.2;clear ss;have NX7:=Lib.hid (NX6.out.span F7.out (.inl (by have:=GLO.out;omega)));have NA7:=Lib.hid (NA6.out.span F7.out (.inl (by have:=GLO.out;omega)));have NR7:=Lib.hid (NR6.out.span F7.out (.inl (by have:=GLO.out;omega)));have B7:=Lib.hid (bl_frm B6.out F7.out (by have:=GLO.out;omega));have Nc:=Lib.hid (show NC w7 lo g5 M c from EC.out ▸ N7.out);clear N7;have N7:=Nc;clear Nc))
  clear cx cy y0 y1 y3 y7 p0 p1
  have HNc : Hid (Blk w7 g5 27 [.slice (some ⟨b1,o1,none⟩) c.st.length M.c1,.slice (some ⟨b2,o2,none⟩) c.bt.length M.c2,.slice M.a3 c.pd.length M.c3,.slice M.a4 c.fo.length M.c4,.slice M.a5 c.ac.length M.c5,.int .i64 c.tu,.int .i64 c.un,.int .i64 c.ra,.int .i64 c.li]):=Lib.hid (by have q:=N7.out.blk;unfold btL at q;rw [E1.out,E2.out] at q;exact q)
  have hc1:=(N7.out.rows.r1.cellE E1.out i LS.out.1).1
  have hc2:=(N7.out.rows.r2.cellE E2.out i LS.out.2.1).1
  rw [XC.out] at hc1
  rw [YC.out] at hc2
  have H1 : Hid (∀ W',Below w7.heap.size w7 W' → W'.cell? ⟨b1,o1 + i,none⟩ = some (.int .i64 X)):=Lib.hid (fun W' hI=>(hI.cell (p:=⟨b1,o1 + i,none⟩) (World.block_lt_of_cell? _ _ hc1)).trans hc1)
  have H2 : Hid (∀ W',Below w7.heap.size w7 W' → W'.cell? ⟨b2,o2 + i,none⟩ = some (.int .i64 Y)):=Lib.hid (fun W' hI=>(hI.cell (p:=⟨b2,o2 + i,none⟩) (World.block_lt_of_cell? _ _ hc2)).trans hc2)
  clear hc1 hc2
  have dc1:=LS.out.2.2.1
  have dc2:=LS.out.2.2.2
  have dc5:=LA.out.2
  refine wp_region_W (last:=17) (k:=17) hmx rfl (fun HD0=>?_)
  refine wpAnyR_takeL (i:=0) (kw:=3) (v:=.pointer (some ⟨g5,0,none⟩)) (fun _=>bl_refl _) (fun p q=>bl_trans p q) rfl rfl (by kernel_rfl) (by kernel_rfl) (by kernel_rfl) (by kernel_rfl) (fun _ _ _ h=>h) HD0 (Or.inl ⟨by kernel_rfl,fun W' hI=>?_⟩) (fun HD1=>?_)
  ·exact .inl (by go_simp)
  refine wpAnyR_takeL (i:=1) (kw:=2) (v:=.slice (some ⟨b1,o1,none⟩) c.st.length M.c1) (fun _=>bl_refl _) (fun p q=>bl_trans p q) rfl rfl (by kernel_rfl) (by kernel_rfl) (by kernel_rfl) (by kernel_rfl) (fun _ _ _ h=>h) HD1 (Or.inl ⟨by kernel_rfl,fun W' hI=>?_⟩) (fun HD2=>?_)
  ·have hv:=(HNc.out).below hI
   obtain ⟨z0,_⟩:=hv.cell 0 _ rfl
   exact .inl (by go_simp)
  refine wpAnyR_takeL (i:=2) (kw:=2) (v:=.int .i64 i) (fun _=>bl_refl _) (fun p q=>bl_trans p q) rfl rfl (by kernel_rfl) (by kernel_rfl) (by kernel_rfl) (by kernel_rfl) (fun _ _ _ h=>h) HD2 (Or.inl ⟨by kernel_rfl,fun W' hI=>?_⟩) (fun HD3=>?_)
  ·exact .inl (by go_simp)
  refine wpAnyR_takeL (i:=3) (kw:=5) (v:=.pointer (some ⟨g5,0,none⟩)) (fun _=>bl_refl _) (fun p q=>bl_trans p q) rfl rfl (by kernel_rfl) (by kernel_rfl) (by kernel_rfl) (by kernel_rfl) (fun _ _ _ h=>h) HD3 (Or.inl ⟨by kernel_rfl,fun W' hI=>?_⟩) (fun HD4=>?_)
  ·exact .inl (by go_simp)
  refine wpAnyR_takeL (i:=4) (kw:=4) (v:=.slice (some ⟨b1,o1,none⟩) c.st.length M.c1) (fun _=>bl_refl _) (fun p q=>bl_trans p q) rfl rfl (by kernel_rfl) (by kernel_rfl) (by kernel_rfl) (by kernel_rfl) (fun _ _ _ h=>h) HD4 (Or.inl ⟨by kernel_rfl,fun W' hI=>?_⟩) (fun HD5=>?_)
  ·have hv:=(HNc.out).below hI
   obtain ⟨z0,_⟩:=hv.cell 0 _ rfl
   exact .inl (by go_simp)
  refine wpAnyR_takeL (i:=5) (kw:=4) (v:=.int .i64 i) (fun _=>bl_refl _) (fun p q=>bl_trans p q) rfl rfl (by kernel_rfl) (by kernel_rfl) (by kernel_rfl) (by kernel_rfl) (fun _ _ _ h=>h) HD5 (Or.inl ⟨by kernel_rfl,fun W' hI=>?_⟩) (fun HD6=>?_)
  ·exact .inl (by go_simp)
  refine wpAnyR_takeL (i:=6) (kw:=3) (v:=.pointer (some ⟨b1,o1 + i,none⟩)) (fun _=>bl_refl _) (fun p q=>bl_trans p q) rfl rfl (by kernel_rfl) (by kernel_rfl) (by kernel_rfl) (by kernel_rfl) (fun _ _ _ h=>h) HD6 (Or.inl ⟨by kernel_rfl,fun W' hI=>?_⟩) (fun HD7=>?_)
  ·exact .inl (by go_simp)
  refine wpAnyR_takeL (i:=7) (kw:=2) (v:=.int .i64 X) (fun _=>bl_refl _) (fun p q=>bl_trans p q) rfl rfl (by kernel_rfl) (by kernel_rfl) (by kernel_rfl) (by kernel_rfl) (fun _ _ _ h=>h) HD7 (Or.inl ⟨by kernel_rfl,fun W' hI=>?_⟩) (fun HD8=>?_)
  ·have hx:=H1.out W' hI
   exact .inl (by go_simp)
  refine wpAnyR_takeL (i:=8) (kw:=3) (v:=.int .i64 z) (fun _=>bl_refl _) (fun p q=>bl_trans p q) rfl rfl (by kernel_rfl) (by kernel_rfl) (by kernel_rfl) (by kernel_rfl) (fun _ _ _ h=>h) HD8 (Or.inl ⟨by kernel_rfl,fun W' hI=>?_⟩) (fun HD9=>?_)
  ·exact .inl (by go_simp)
  refine wpAnyR_takeL (i:=9) (kw:=6) (v:=.pointer (some ⟨g5,1,none⟩)) (fun _=>bl_refl _) (fun p q=>bl_trans p q) rfl rfl (by kernel_rfl) (by kernel_rfl) (by kernel_rfl) (by kernel_rfl) (fun _ _ _ h=>h) HD9 (Or.inl ⟨by kernel_rfl,fun W' hI=>?_⟩) (fun HD10=>?_)
  ·exact .inl (by go_simp)
  refine wpAnyR_takeL (i:=10) (kw:=5) (v:=.slice (some ⟨b2,o2,none⟩) c.bt.length M.c2) (fun _=>bl_refl _) (fun p q=>bl_trans p q) rfl rfl (by kernel_rfl) (by kernel_rfl) (by kernel_rfl) (by kernel_rfl) (fun _ _ _ h=>h) HD10 (Or.inl ⟨by kernel_rfl,fun W' hI=>?_⟩) (fun HD11=>?_)
  ·have hv:=(HNc.out).below hI
   obtain ⟨z1,_⟩:=hv.cell 1 _ rfl
   exact .inl (by go_simp)
  refine wpAnyR_takeL (i:=11) (kw:=5) (v:=.int .i64 i) (fun _=>bl_refl _) (fun p q=>bl_trans p q) rfl rfl (by kernel_rfl) (by kernel_rfl) (by kernel_rfl) (by kernel_rfl) (fun _ _ _ h=>h) HD11 (Or.inl ⟨by kernel_rfl,fun W' hI=>?_⟩) (fun HD12=>?_)
  ·exact .inl (by go_simp)
  refine wpAnyR_takeL (i:=12) (kw:=4) (v:=.pointer (some ⟨b2,o2 + i,none⟩)) (fun _=>bl_refl _) (fun p q=>bl_trans p q) rfl rfl (by kernel_rfl) (by kernel_rfl) (by kernel_rfl) (by kernel_rfl) (fun _ _ _ h=>h) HD12 (Or.inl ⟨by kernel_rfl,fun W' hI=>?_⟩) (fun HD13=>?_)
  ·exact .inl (by go_simp)
  refine wpAnyR_takeL (i:=13) (kw:=3) (v:=.int .i64 Y) (fun _=>bl_refl _) (fun p q=>bl_trans p q) rfl rfl (by kernel_rfl) (by kernel_rfl) (by kernel_rfl) (by kernel_rfl) (fun _ _ _ h=>h) HD13 (Or.inl ⟨by kernel_rfl,fun W' hI=>?_⟩) (fun HD14=>?_)
  ·have hx:=H2.out W' hI
   exact .inl (by go_simp)
  refine wpAnyR_takeL (i:=14) (kw:=2) (v:=.int .i64 (z - Y)) (fun _=>bl_refl _) (fun p q=>bl_trans p q) rfl rfl (by kernel_rfl) (by kernel_rfl) (by kernel_rfl) (by kernel_rfl) (fun _ _ _ h=>h) HD14 (Or.inl ⟨by kernel_rfl,fun W' hI=>?_⟩) (fun HD15=>?_)
  ·exact .inl (by go_simp;first | done | exact IntWalk.i64_in _ (by omega))
  refine wpAnyR_takeL (i:=15) (kw:=1) (v:=.int .i64 (X - (z - Y))) (fun _=>bl_refl _) (fun p q=>bl_trans p q) rfl rfl (by kernel_rfl) (by kernel_rfl) (by kernel_rfl) (by kernel_rfl) (fun _ _ _ h=>h) HD15 (Or.inl ⟨by kernel_rfl,fun W' hI=>?_⟩) (fun HD16=>?_)
  ·exact .inl (by go_simp;first | done | exact IntWalk.i64_in _ (by omega))
  refine wpAnyR_takeL (i:=16) (kw:=1) (v:=.pointer (some ⟨b1,o1 + i,none⟩)) (fun _=>bl_refl _) (fun p q=>bl_trans p q) rfl rfl (by kernel_rfl) (by kernel_rfl) (by kernel_rfl) (by kernel_rfl) (fun _ _ _ h=>h) HD16 (Or.inl ⟨by kernel_rfl,fun W' hI=>?_⟩) (fun HD17=>?_)
  ·exact .inl (by go_simp)
  refine wpAnyR_lastL (by kernel_rfl) (by kernel_rfl) rfl (by kernel_rfl) (fun wS hrR=>⟨bl_drewT hrR,?_⟩)
  intro K hK
  have BR:=Lib.hid (bl_drewT hrR)
  clear hrR
  have Nt0:=Lib.hid (N7.out.below BR.out)
  have NRt0:=Lib.hid (NR7.out.below BR.out)
  have Bt0:=Lib.hid (bl_trans B7.out BR.out)
  have c4:=(Nt0.out.rows.r1.cellE E1.out i LS.out.1).1
  have f4:=(Nt0.out.rows.r1.cellE E1.out i LS.out.1).2
  go_simp
  refine hK _ _ ?_
  clear hK K
  have ss:=Nt0.out.setSt E1.out i LS.out.1 (X - (z - Y))
  clear c4 f4
  generalize wS.setCell ⟨b1,o1 + i,none⟩ (.int .i64 (X - (z - Y))) = w7 at *
  have Nt1:=Lib.hid ss.1
  have NRt1:=Lib.hid (NRt0.out.span ss.2 (.inl (by have:=GLO.out;omega)))
  have Bt1:=Lib.hid (bl_frm Bt0.out ss.2 (by have:=GLO.out;omega))
  have BX1:=ss.1.blk
  unfold btL at BX1
  simp only at BX1
  rw [E2.out] at BX1
  obtain ⟨y1,-⟩:=BX1.cell 1 _ rfl
  clear ss BX1 HNc H1 H2 Nt0 NRt0 Bt0 BR N7 NX7 NA7 NR7 B7
  go_wp2_with (first
    | ((with_reducible refine at_st 2 (.tmp 89) (.tmp 88) rfl ?_);(refine wpList_store_el 2 rfl (.tmp 89) (.tmp 88) rfl (by kernel_rfl) ⟨b2,o2 + i,none⟩ rfl (.int .i64 z) rfl rfl _ (Nt1.out.rows.r2.cellE E2.out i LS.out.2.1).1 (Nt1.out.rows.r2.cellE E2.out i LS.out.2.1).2 ?_);have ss:=Nt1.out.setBt E2.out i LS.out.2.1 z;obtain ⟨wt2,ew⟩ : ∃ W : World,W = w7.setCell ⟨b2,o2 + i,none⟩ (.int .i64 z):=⟨_,rfl⟩;rw [← ew] at ss ⊢;clear ew;have Nt2:=Lib.hid ss.1;have Ft2:=Lib.hid ss.2;clear ss;have NRt2:=Lib.hid (NRt1.out.span Ft2.out (.inl (by have:=GLO.out;omega)));have Bt2:=Lib.hid (bl_frm Bt1.out Ft2.out (by have:=GLO.out;omega));have BX2:=Nt2.out.blk;unfold btL at BX2;simp only at BX2;rw [E5.out] at BX2;obtain ⟨u4,-⟩:=BX2.cell 4 _ rfl;clear BX2)
    | ((with_reducible refine at_st 4 (.tmp 93) (.const (.bool true)) rfl ?_);(refine wpList_store_el 4 rfl (.tmp 93) (.const (.bool true)) rfl (by kernel_rfl) ⟨b5,o5 + i,none⟩ rfl (.bool true) rfl rfl _ (Nt2.out.rows.r5.cellE E5.out i LA.out.1).1 (Nt2.out.rows.r5.cellE E5.out i LA.out.1).2 ?_);have ss:=Nt2.out.setAc E5.out i LA.out.1 true;obtain ⟨wt3,ew⟩ : ∃ W : World,W = wt2.setCell ⟨b5,o5 + i,none⟩ (.bool true):=⟨_,rfl⟩;rw [← ew] at ss ⊢;clear ew;have Nt3:=Lib.hid ss.1;have Ft3:=Lib.hid ss.2;clear ss;have NRt3:=Lib.hid (NRt2.out.span Ft3.out (.inl (by have:=GLO.out;omega)));have Bt3:=Lib.hid (bl_frm Bt2.out Ft3.out (by have:=GLO.out;omega));obtain ⟨d,ed⟩ : ∃ d : Bt,d = { c with st:=c.st.set i (X - (z - Y)),bt:=c.bt.set i z,ac:=c.ac.set i true }:=⟨_,rfl⟩;have Nd:=Lib.hid (show NC wt3 lo g5 M d from ed ▸ Nt3.out);have hd:=HD.out d ed;have KN:=Lib.hid (fun (W : World) (hW : Rd5 W M d)=>l10Next_any M d i W hW hd.1 (by omega) (by omega));have HAP:=Lib.hid hd.2;clear hd Nt3 ed;unfold bV at KN;have BX3:=Nd.out.blk;unfold btL at BX3;obtain ⟨v0,-⟩:=BX3.cell 0 _ rfl;obtain ⟨v1,-⟩:=BX3.cell 1 _ rfl;obtain ⟨v2,-⟩:=BX3.cell 2 _ rfl;obtain ⟨v3,-⟩:=BX3.cell 3 _ rfl;obtain ⟨v4,-⟩:=BX3.cell 4 _ rfl;obtain ⟨v5,-⟩:=BX3.cell 5 _ rfl;obtain ⟨v6,-⟩:=BX3.cell 6 _ rfl;obtain ⟨v7,-⟩:=BX3.cell 7 _ rfl;obtain ⟨v8,-⟩:=BX3.cell 8 _ rfl;clear BX3)
    | (go_at_call 152;refine (KN.out _ Nd.out.rows.rd).mono ?_;rintro e wt4 ⟨rfl,hb⟩;have Nt4:=Lib.hid (Nd.out.below hb);have NRt4:=Lib.hid (NRt3.out.below hb);have Bt4:=Lib.hid (bl_trans Bt3.out hb);clear hb)
    | ((with_reducible refine wpList_store_at 2 rfl (.tmp 97) (.tmp 96) rfl i1 g5 5 rfl (.int .i64 (nxtG d i)) rfl rfl _ _ Nt4.out.blk ?_ ?_);(exact (by simp));intro wt5 k5 g5x;have ss:=Nt4.out.setTu (nxtG d i) k5 g5x;have Nt5:=Lib.hid ss.1;have Ft5:=Lib.hid ss.2;clear ss k5 g5x;have NRt5:=Lib.hid (NRt4.out.span Ft5.out (.inl (by have:=GLO.out;omega)));have Bt5:=Lib.hid (bl_frm Bt4.out Ft5.out (by have:=GLO.out;omega));have BX5:=Nt5.out.blk;unfold btL at BX5;simp only at BX5;obtain ⟨x0,-⟩:=BX5.cell 0 _ rfl;obtain ⟨x1,-⟩:=BX5.cell 1 _ rfl;obtain ⟨x2,-⟩:=BX5.cell 2 _ rfl;obtain ⟨x3,-⟩:=BX5.cell 3 _ rfl;obtain ⟨x4,-⟩:=BX5.cell 4 _ rfl;obtain ⟨x5,-⟩:=BX5.cell 5 _ rfl;obtain ⟨x6,-⟩:=BX5.cell 6 _ rfl;obtain ⟨x7,-⟩:=BX5.cell 7 _ rfl;obtain ⟨x8,-⟩:=BX5.cell 8 _ rfl;clear BX5)
    | ((with_reducible refine at_st 27 (.tmp 4) (.tmp 98) rfl ?_);(refine wpList_store_blk 27 9 rfl (.tmp 4) (.tmp 98) rfl iB (w.heap.size + 1 + 1) rfl [.slice M.a1 d.st.length M.c1,.slice M.a2 d.bt.length M.c2,.slice M.a3 d.pd.length M.c3,.slice M.a4 d.fo.length M.c4,.slice M.a5 d.ac.length M.c5,.int .i64 (nxtG d i),.int .i64 d.un,.int .i64 d.ra,.int .i64 d.li] rfl rfl (by simp [Value.oneCell']) _ NRt5.out rfl ?_);intro w12 k9 g9;have B12:=Lib.hid (below_grown1 Bt5.out g9 (by omega));have R12:=Lib.hid (Nt5.out.rows.grownB g9 (by have:=GLO.out;omega))))
  obtain ⟨z0,_⟩:=k9.cell 0 _ rfl
  obtain ⟨z1,_⟩:=k9.cell 1 _ rfl
  obtain ⟨z2,_⟩:=k9.cell 2 _ rfl
  obtain ⟨z3,_⟩:=k9.cell 3 _ rfl
  obtain ⟨z4,_⟩:=k9.cell 4 _ rfl
  obtain ⟨z5,_⟩:=k9.cell 5 _ rfl
  obtain ⟨z6,_⟩:=k9.cell 6 _ rfl
  obtain ⟨z7,_⟩:=k9.cell 7 _ rfl
  obtain ⟨z8,_⟩:=k9.cell 8 _ rfl
  exact bodyPost_ret (v:=.agg #[.slice M.a1 d.st.length M.c1,.slice M.a2 d.bt.length M.c2,.slice M.a3 d.pd.length M.c3,.slice M.a4 d.fo.length M.c4,.slice M.a5 d.ac.length M.c5,.int .i64 (nxtG d i),.int .i64 d.un,.int .i64 d.ra,.int .i64 d.li]) (by simp [results,Try.results90,go_sem,z0,z1,z2,z3,z4,z5,z6,z7,z8]) rfl ⟨M,by rw [HAP.out];rfl,by rw [HAP.out];exact R12.out.less (by have:=GLO.out;omega),B12.out⟩
 ·obtain ⟨rfl,rfl,hck⟩:=hk
  obtain ⟨c,ec⟩ : ∃ c : Bt,c = b:=⟨_,rfl⟩
  have LS : Hid (i < c.st.length ∧ i < c.bt.length ∧ (i : Int) < c.st.length ∧ (i : Int) < c.bt.length):=Lib.hid (by rw [ec];exact ⟨hil,hil2,d1,d2⟩)
  have XC : Hid (nth c.st i = X):=Lib.hid (by rw [ec];exact EX.out.symm)
  have YC : Hid (nth c.bt i = Y):=Lib.hid (by rw [ec];exact EY.out.symm)
  have LA : Hid (i < c.ac.length ∧ (i : Int) < c.ac.length):=Lib.hid (by rw [ec];exact ⟨hil5,d5⟩)
  obtain ⟨z,ez⟩ : ∃ z : Int,z = Y:=⟨_,rfl⟩
  have HD : Hid (∀ d : Bt,d = { c with st:=c.st.set i (X - (z - Y)),bt:=c.bt.set i z,ac:=c.ac.set i true } → Sd d ∧ appB b 1 0 = { d with tu:=nxtG d i }):=Lib.hid (fun d hd=>HAPB d (by
   rw [hd,ec,ez]
   rw [set_self b.st i _ (by omega),set_self b.bt i _ ey]
   unfold setAc actB
   simp [hn]))
  have EC:=Lib.hid ec
  have EZ:=Lib.hid ez
  have bz : -10000000 ≤ z ∧ z ≤ 10000000:=by omega
  clear ec HAPB et ex ey hl hn l2 l4 l5 hck ez
  have b1:=bl_box (w:=w) (L:=L) (b:=b)
  have b2:=bl_alloc (bl_refl (w.alloc (.cells (btL L b).toArray 27))) (.cells ([.int .i64 1,.int .i64 0] : List Value).toArray 34)
  have b3:=bl_alloc (bl_refl ((w.alloc (.cells (btL L b).toArray 27)).alloc (.cells ([.int .i64 1,.int .i64 0] : List Value).toArray 34))) (.cells ([.slice none 0 0,.slice none 0 0,.slice none 0 0,.slice none 0 0,.slice none 0 0,.int .i64 0,.int .i64 0,.int .i64 0,.int .i64 0] : List Value).toArray 27)
  have BT:=((btAt_new h).below b2).below b3
  have n1:=blk_new (w.alloc (.cells (btL L b).toArray 27)) 34 [.int .i64 1,.int .i64 0]
  rw [World.size_alloc] at n1
  have n2:=blk_new ((w.alloc (.cells (btL L b).toArray 27)).alloc (.cells ([.int .i64 1,.int .i64 0] : List Value).toArray 34)) 27 [.slice none 0 0,.slice none 0 0,.slice none 0 0,.slice none 0 0,.slice none 0 0,.int .i64 0,.int .i64 0,.int .i64 0,.int .i64 0]
  rw [World.size_alloc,World.size_alloc] at n2
  have B:=Lib.hid (bl_trans (bl_trans b1 b2) b3)
  have NA:=Lib.hid (n1.below b3)
  have NR:=Lib.hid n2
  have NX:=Lib.hid BT.blk
  have RX:=Lib.hid BT.rd
  have KO:=Lib.hid (l10OwnX_any L b _ BT.rd kk.sm)
  have BT1:=BT.blk
  obtain ⟨lo,elo⟩ : ∃ lo,lo = (((w.alloc (.cells (btL L b).toArray 27)).alloc (.cells ([.int .i64 1,.int .i64 0] : List Value).toArray 34)).alloc (.cells ([.slice none 0 0,.slice none 0 0,.slice none 0 0,.slice none 0 0,.slice none 0 0,.int .i64 0,.int .i64 0,.int .i64 0,.int .i64 0] : List Value).toArray 27)).heap.size:=⟨_,rfl⟩
  have hlo : w.heap.size + 1 + 1 < lo:=by rw [elo];simp only [World.size_alloc];omega
  obtain ⟨q0,-⟩:=BT1.cell 0 _ rfl
  obtain ⟨q1,-⟩:=BT1.cell 1 _ rfl
  obtain ⟨q2,-⟩:=BT1.cell 2 _ rfl
  obtain ⟨q3,-⟩:=BT1.cell 3 _ rfl
  obtain ⟨q4,-⟩:=BT1.cell 4 _ rfl
  obtain ⟨q5,-⟩:=BT1.cell 5 _ rfl
  obtain ⟨q6,-⟩:=BT1.cell 6 _ rfl
  obtain ⟨q7,-⟩:=BT1.cell 7 _ rfl
  obtain ⟨q8,-⟩:=BT1.cell 8 _ rfl
  clear BT1 n1 n2 b1 b2 b3
  clear hi
  unfold bV at *
  go_enter Try.func90,Try.ntmps90
  go_wp2_with ((go_at_call 112;refine KO.out.mono ?_;rintro e w4 ⟨M,rfl,hr,hb⟩;rw [← elo] at hr;have hb5:=bl_trans hb (bl_alloc (bl_refl w4) (.cells (btL M b).toArray 27));have N5:=Lib.hid (NC.new hr (by rw [elo];exact hb.size));have NX5:=Lib.hid (NX.out.below hb5);have RX5:=Lib.hid (RX.out.below hb5);have NA5:=Lib.hid (NA.out.below hb5);have NR5:=Lib.hid (NR.out.below hb5);have B5:=Lib.hid (bl_trans B.out hb5);clear hr hb hb5))
  have GLO:=Lib.hid (And.intro hlo (Nat.le_refl lo))
  obtain ⟨g5,eg⟩ : ∃ g,g = w4.heap.size:=⟨_,rfl⟩
  obtain ⟨w5,e5⟩ : ∃ W,W = w4.alloc (.cells (btL M b).toArray 27):=⟨_,rfl⟩
  rw [← e5,← eg] at N5
  rw [← e5] at NX5 RX5 NA5 NR5 B5
  simp only [btL,List.toArray] at e5
  rw [← eg,← e5]
  clear eg e5 elo hlo KO BT NA NR NX RX B
  have NX5i : Hid (Blk w5 w.heap.size 27 [.slice L.a1 b.st.length L.c1,.slice L.a2 b.bt.length L.c2,.slice L.a3 b.pd.length L.c3,.slice L.a4 b.fo.length L.c4,.slice L.a5 b.ac.length L.c5,.int .i64 i,.int .i64 b.un,.int .i64 b.ra,.int .i64 b.li]):=Lib.hid (by have q:=NX5.out;unfold btL at q;rw [HI.out] at q;exact q)
  have KMX : Hid (∀ W : World,Rd5 W L b → Calls Try.prog 137 #[.agg #[.slice L.a1 b.st.length L.c1,.slice L.a2 b.bt.length L.c2,.slice L.a3 b.pd.length L.c3,.slice L.a4 b.fo.length L.c4,.slice L.a5 b.ac.length L.c5,.int .i64 i,.int .i64 b.un,.int .i64 b.ra,.int .i64 b.li]] W (Fresh (.int .i64 t) W)):=Lib.hid (fun W hW=>by have q:=KM.out L W hW;unfold bV at q;rw [HI.out] at q;exact q)
  refine wp_region_W (last:=5) (k:=5) hmx rfl (fun HC0=>?_)
  refine wpAnyR_takeL (i:=0) (kw:=6) (v:=.pointer (some ⟨w.heap.size,5,none⟩)) (fun _=>bl_refl _) (fun p q=>bl_trans p q) rfl rfl (by kernel_rfl) (by kernel_rfl) (by kernel_rfl) (by kernel_rfl) (fun _ _ _ h=>h) HC0 (Or.inl ⟨by kernel_rfl,fun W' hI=>?_⟩) (fun HC1=>?_)
  ·exact .inl (by go_simp)
  refine wpAnyR_takeL (i:=1) (kw:=6) (v:=.int .i64 i) (fun _=>bl_refl _) (fun p q=>bl_trans p q) rfl rfl (by kernel_rfl) (by kernel_rfl) (by kernel_rfl) (by kernel_rfl) (fun _ _ _ h=>h) HC1 (Or.inl ⟨by kernel_rfl,fun W' hI=>?_⟩) (fun HC2=>?_)
  ·have hv:=(NX5i.out).below hI
   obtain ⟨z5,_⟩:=hv.cell 5 _ rfl
   exact .inl (by go_simp)
  refine wpAnyR_takeL (i:=2) (kw:=2) (v:=.agg #[.slice L.a1 b.st.length L.c1,.slice L.a2 b.bt.length L.c2,.slice L.a3 b.pd.length L.c3,.slice L.a4 b.fo.length L.c4,.slice L.a5 b.ac.length L.c5,.int .i64 i,.int .i64 b.un,.int .i64 b.ra,.int .i64 b.li]) (fun _=>bl_refl _) (fun p q=>bl_trans p q) rfl rfl (by kernel_rfl) (by kernel_rfl) (by kernel_rfl) (by kernel_rfl) (fun _ _ _ h=>h) HC2 (Or.inl ⟨by kernel_rfl,fun W' hI=>?_⟩) (fun HC3=>?_)
  ·have hv:=(NX5i.out).below hI
   obtain ⟨z0,_⟩:=hv.cell 0 _ rfl
   obtain ⟨z1,_⟩:=hv.cell 1 _ rfl
   obtain ⟨z2,_⟩:=hv.cell 2 _ rfl
   obtain ⟨z3,_⟩:=hv.cell 3 _ rfl
   obtain ⟨z4,_⟩:=hv.cell 4 _ rfl
   obtain ⟨z5,_⟩:=hv.cell 5 _ rfl
   obtain ⟨z6,_⟩:=hv.cell 6 _ rfl
   obtain ⟨z7,_⟩:=hv.cell 7 _ rfl
   obtain ⟨z8,_⟩:=hv.cell 8 _ rfl
   exact .inl (by go_simp)
  refine wpAnyR_takeL (i:=3) (kw:=1) (v:=.int .i64 t) (fun _=>bl_refl _) (fun p q=>bl_trans p q) rfl rfl (by kernel_rfl) (by kernel_rfl) (by kernel_rfl) (by kernel_rfl) (fun _ _ _ h=>h) HC3 (Or.inl ⟨by kernel_rfl,fun W' hI=>?_⟩) (fun HC4=>?_)
  ·exact .inr ⟨137,#[.agg #[.slice L.a1 b.st.length L.c1,.slice L.a2 b.bt.length L.c2,.slice L.a3 b.pd.length L.c3,.slice L.a4 b.fo.length L.c4,.slice L.a5 b.ac.length L.c5,.int .i64 i,.int .i64 b.un,.int .i64 b.ra,.int .i64 b.li]],by go_simp,KMX.out W' (RX5.out.below hI)⟩
  refine wpAnyR_takeL (i:=4) (kw:=6) (v:=.int .i64 i) (fun _=>bl_refl _) (fun p q=>bl_trans p q) rfl rfl (by kernel_rfl) (by kernel_rfl) (by kernel_rfl) (by kernel_rfl) (fun _ _ _ h=>h) HC4 (Or.inl ⟨by kernel_rfl,fun W' hI=>?_⟩) (fun HC5=>?_)
  ·exact .inl (by go_simp)
  refine wpAnyR_lastL (by kernel_rfl) (by kernel_rfl) rfl (by kernel_rfl) (fun wR hrR=>⟨bl_drewT hrR,?_⟩)
  intro K hK
  have BR:=Lib.hid (bl_drewT hrR)
  clear hrR
  go_simp
  refine hK _ _ ?_
  clear hK K
  have N6:=Lib.hid (N5.out.below BR.out)
  have NX6:=Lib.hid (NX5i.out.below BR.out)
  have NA6:=Lib.hid (NA5.out.below BR.out)
  have NR6:=Lib.hid (NR5.out.below BR.out)
  have B6:=Lib.hid (bl_trans B5.out BR.out)
  clear N5 NX5 NX5i RX5 NA5 NR5 B5 BR KMX
  obtain ⟨b1,o1,e1,-⟩:=N6.out.rows.r1.rd.at_0 i hil
  obtain ⟨b2,o2,e2,-⟩:=N6.out.rows.r2.rd.at_0 i hil2
  obtain ⟨b4,o4,e4,-⟩:=N6.out.rows.r4.rd.at_0 i hil4
  obtain ⟨b5,o5,e5,-⟩:=N6.out.rows.r5.rd.at_0 i hil5
  have E1:=Lib.hid e1
  have E2:=Lib.hid e2
  have E4:=Lib.hid e4
  have E5:=Lib.hid e5
  clear e1 e2 e4 e5
  have cx:=(N6.out.rows.r1.cellE E1.out i hil).1
  have cy:=(N6.out.rows.r2.cellE E2.out i hil2).1
  rw [← EX.out] at cx
  rw [← EY.out] at cy
  rw [← EZ.out] at cy
  have BX6:=N6.out.blk
  unfold btL at BX6
  rw [E1.out,E2.out,E4.out,E5.out] at BX6
  obtain ⟨y0,-⟩:=BX6.cell 0 _ rfl
  obtain ⟨y1,-⟩:=BX6.cell 1 _ rfl
  obtain ⟨y3,-⟩:=BX6.cell 3 _ rfl
  obtain ⟨y7,-⟩:=BX6.cell 7 _ rfl
  obtain ⟨p0,-⟩:=NA6.out.cell 0 _ rfl
  obtain ⟨p1,-⟩:=NA6.out.cell 1 _ rfl
  clear BX6
  go_wp2_with fail
  have Nc:=Lib.hid (show NC wR lo g5 M c from EC.out ▸ N6.out)
  clear N6
  have N6:=Nc
  clear Nc
  clear cx cy y0 y1 y3 y7 p0 p1
  have HNc : Hid (Blk wR g5 27 [.slice (some ⟨b1,o1,none⟩) c.st.length M.c1,.slice (some ⟨b2,o2,none⟩) c.bt.length M.c2,.slice M.a3 c.pd.length M.c3,.slice M.a4 c.fo.length M.c4,.slice M.a5 c.ac.length M.c5,.int .i64 c.tu,.int .i64 c.un,.int .i64 c.ra,.int .i64 c.li]):=Lib.hid (by have q:=N6.out.blk;unfold btL at q;rw [E1.out,E2.out] at q;exact q)
  have hc1:=(N6.out.rows.r1.cellE E1.out i LS.out.1).1
  have hc2:=(N6.out.rows.r2.cellE E2.out i LS.out.2.1).1
  rw [XC.out] at hc1
  rw [YC.out] at hc2
  have H1 : Hid (∀ W',Below wR.heap.size wR W' → W'.cell? ⟨b1,o1 + i,none⟩ = some (.int .i64 X)):=Lib.hid (fun W' hI=>(hI.cell (p:=⟨b1,o1 + i,none⟩) (World.block_lt_of_cell? _ _ hc1)).trans hc1)
  have H2 : Hid (∀ W',Below wR.heap.size wR W' → W'.cell? ⟨b2,o2 + i,none⟩ = some (.int .i64 Y)):=Lib.hid (fun W' hI=>(hI.cell (p:=⟨b2,o2 + i,none⟩) (World.block_lt_of_cell? _ _ hc2)).trans hc2)
  clear hc1 hc2
  have dc1:=LS.out.2.2.1
  have dc2:=LS.out.2.2.2
  have dc5:=LA.out.2
  refine wp_region_W (last:=17) (k:=17) hmx rfl (fun HD0=>?_)
  refine wpAnyR_takeL (i:=0) (kw:=3) (v:=.pointer (some ⟨g5,0,none⟩)) (fun _=>bl_refl _) (fun p q=>bl_trans p q) rfl rfl (by kernel_rfl) (by kernel_rfl) (by kernel_rfl) (by kernel_rfl) (fun _ _ _ h=>h) HD0 (Or.inl ⟨by kernel_rfl,fun W' hI=>?_⟩) (fun HD1=>?_)
  ·exact .inl (by go_simp)
  refine wpAnyR_takeL (i:=1) (kw:=2) (v:=.slice (some ⟨b1,o1,none⟩) c.st.length M.c1) (fun _=>bl_refl _) (fun p q=>bl_trans p q) rfl rfl (by kernel_rfl) (by kernel_rfl) (by kernel_rfl) (by kernel_rfl) (fun _ _ _ h=>h) HD1 (Or.inl ⟨by kernel_rfl,fun W' hI=>?_⟩) (fun HD2=>?_)
  ·have hv:=(HNc.out).below hI
   obtain ⟨z0,_⟩:=hv.cell 0 _ rfl
   exact .inl (by go_simp)
  refine wpAnyR_takeL (i:=2) (kw:=2) (v:=.int .i64 i) (fun _=>bl_refl _) (fun p q=>bl_trans p q) rfl rfl (by kernel_rfl) (by kernel_rfl) (by kernel_rfl) (by kernel_rfl) (fun _ _ _ h=>h) HD2 (Or.inl ⟨by kernel_rfl,fun W' hI=>?_⟩) (fun HD3=>?_)
  ·exact .inl (by go_simp)
  refine wpAnyR_takeL (i:=3) (kw:=5) (v:=.pointer (some ⟨g5,0,none⟩)) (fun _=>bl_refl _) (fun p q=>bl_trans p q) rfl rfl (by kernel_rfl) (by kernel_rfl) (by kernel_rfl) (by kernel_rfl) (fun _ _ _ h=>h) HD3 (Or.inl ⟨by kernel_rfl,fun W' hI=>?_⟩) (fun HD4=>?_)
  ·exact .inl (by go_simp)
  refine wpAnyR_takeL (i:=4) (kw:=4) (v:=.slice (some ⟨b1,o1,none⟩) c.st.length M.c1) (fun _=>bl_refl _) (fun p q=>bl_trans p q) rfl rfl (by kernel_rfl) (by kernel_rfl) (by kernel_rfl) (by kernel_rfl) (fun _ _ _ h=>h) HD4 (Or.inl ⟨by kernel_rfl,fun W' hI=>?_⟩) (fun HD5=>?_)
  ·have hv:=(HNc.out).below hI
   obtain ⟨z0,_⟩:=hv.cell 0 _ rfl
   exact .inl (by go_simp)
  refine wpAnyR_takeL (i:=5) (kw:=4) (v:=.int .i64 i) (fun _=>bl_refl _) (fun p q=>bl_trans p q) rfl rfl (by kernel_rfl) (by kernel_rfl) (by kernel_rfl) (by kernel_rfl) (fun _ _ _ h=>h) HD5 (Or.inl ⟨by kernel_rfl,fun W' hI=>?_⟩) (fun HD6=>?_)
  ·exact .inl (by go_simp)
  refine wpAnyR_takeL (i:=6) (kw:=3) (v:=.pointer (some ⟨b1,o1 + i,none⟩)) (fun _=>bl_refl _) (fun p q=>bl_trans p q) rfl rfl (by kernel_rfl) (by kernel_rfl) (by kernel_rfl) (by kernel_rfl) (fun _ _ _ h=>h) HD6 (Or.inl ⟨by kernel_rfl,fun W' hI=>?_⟩) (fun HD7=>?_)
  ·exact .inl (by go_simp)
  refine wpAnyR_takeL (i:=7) (kw:=2) (v:=.int .i64 X) (fun _=>bl_refl _) (fun p q=>bl_trans p q) rfl rfl (by kernel_rfl) (by kernel_rfl) (by kernel_rfl) (by kernel_rfl) (fun _ _ _ h=>h) HD7 (Or.inl ⟨by kernel_rfl,fun W' hI=>?_⟩) (fun HD8=>?_)
  ·have hx:=H1.out W' hI
   exact .inl (by go_simp)
  refine wpAnyR_takeL (i:=8) (kw:=3) (v:=.int .i64 z) (fun _=>bl_refl _) (fun p q=>bl_trans p q) rfl rfl (by kernel_rfl) (by kernel_rfl) (by kernel_rfl) (by kernel_rfl) (fun _ _ _ h=>h) HD8 (Or.inl ⟨by kernel_rfl,fun W' hI=>?_⟩) (fun HD9=>?_)
  ·exact .inl (by go_simp)
  refine wpAnyR_takeL (i:=9) (kw:=6) (v:=.pointer (some ⟨g5,1,none⟩)) (fun _=>bl_refl _) (fun p q=>bl_trans p q) rfl rfl (by kernel_rfl) (by kernel_rfl) (by kernel_rfl) (by kernel_rfl) (fun _ _ _ h=>h) HD9 (Or.inl ⟨by kernel_rfl,fun W' hI=>?_⟩) (fun HD10=>?_)
  ·exact .inl (by go_simp)
  refine wpAnyR_takeL (i:=10) (kw:=5) (v:=.slice (some ⟨b2,o2,none⟩) c.bt.length M.c2) (fun _=>bl_refl _) (fun p q=>bl_trans p q) rfl rfl (by kernel_rfl) (by kernel_rfl) (by kernel_rfl) (by kernel_rfl) (fun _ _ _ h=>h) HD10 (Or.inl ⟨by kernel_rfl,fun W' hI=>?_⟩) (fun HD11=>?_)
  ·have hv:=(HNc.out).below hI
   obtain ⟨z1,_⟩:=hv.cell 1 _ rfl
   exact .inl (by go_simp)
  refine wpAnyR_takeL (i:=11) (kw:=5) (v:=.int .i64 i) (fun _=>bl_refl _) (fun p q=>bl_trans p q) rfl rfl (by kernel_rfl) (by kernel_rfl) (by kernel_rfl) (by kernel_rfl) (fun _ _ _ h=>h) HD11 (Or.inl ⟨by kernel_rfl,fun W' hI=>?_⟩) (fun HD12=>?_)
  ·exact .inl (by go_simp)
  refine wpAnyR_takeL (i:=12) (kw:=4) (v:=.pointer (some ⟨b2,o2 + i,none⟩)) (fun _=>bl_refl _) (fun p q=>bl_trans p q) rfl rfl (by kernel_rfl) (by kernel_rfl) (by kernel_rfl) (by kernel_rfl) (fun _ _ _ h=>h) HD12 (Or.inl ⟨by kernel_rfl,fun W' hI=>?_⟩) (fun HD13=>?_)
  ·exact .inl (by go_simp)
  refine wpAnyR_takeL (i:=13) (kw:=3) (v:=.int .i64 Y) (fun _=>bl_refl _) (fun p q=>bl_trans p q) rfl rfl (by kernel_rfl) (by kernel_rfl) (by kernel_rfl) (by kernel_rfl) (fun _ _ _ h=>h) HD13 (Or.inl ⟨by kernel_rfl,fun W' hI=>?_⟩) (fun HD14=>?_)
  ·have hx:=H2.out W' hI
   exact .inl (by go_simp)
  refine wpAnyR_takeL (i:=14) (kw:=2) (v:=.int .i64 (z - Y)) (fun _=>bl_refl _) (fun p q=>bl_trans p q) rfl rfl (by kernel_rfl) (by kernel_rfl) (by kernel_rfl) (by kernel_rfl) (fun _ _ _ h=>h) HD14 (Or.inl ⟨by kernel_rfl,fun W' hI=>?_⟩) (fun HD15=>?_)
  ·exact .inl (by go_simp;first | done | exact IntWalk.i64_in _ (by omega))
  refine wpAnyR_takeL (i:=15) (kw:=1) (v:=.int .i64 (X - (z - Y))) (fun _=>bl_refl _) (fun p q=>bl_trans p q) rfl rfl (by kernel_rfl) (by kernel_rfl) (by kernel_rfl) (by kernel_rfl) (fun _ _ _ h=>h) HD15 (Or.inl ⟨by kernel_rfl,fun W' hI=>?_⟩) (fun HD16=>?_)
  ·exact .inl (by go_simp;first | done | exact IntWalk.i64_in _ (by omega))
  refine wpAnyR_takeL (i:=16) (kw:=1) (v:=.pointer (some ⟨b1,o1 + i,none⟩)) (fun _=>bl_refl _) (fun p q=>bl_trans p q) rfl rfl (by kernel_rfl) (by kernel_rfl) (by kernel_rfl) (by kernel_rfl) (fun _ _ _ h=>h) HD16 (Or.inl ⟨by kernel_rfl,fun W' hI=>?_⟩) (fun HD17=>?_)
  ·exact .inl (by go_simp)
  refine wpAnyR_lastL (by kernel_rfl) (by kernel_rfl) rfl (by kernel_rfl) (fun wS hrR=>⟨bl_drewT hrR,?_⟩)
  intro K hK
  have BR:=Lib.hid (bl_drewT hrR)
  clear hrR
  have Nt0:=Lib.hid (N6.out.below BR.out)
  have NRt0:=Lib.hid (NR6.out.below BR.out)
  have Bt0:=Lib.hid (bl_trans B6.out BR.out)
  have c4:=(Nt0.out.rows.r1.cellE E1.out i LS.out.1).1
  have f4:=(Nt0.out.rows.r1.cellE E1.out i LS.out.1).2
  go_simp
  refine hK _ _ ?_
  clear hK K
  have ss:=Nt0.out.setSt E1.out i LS.out.1 (X - (z - Y))
  clear c4 f4
  generalize wS.setCell ⟨b1,o1 + i,none⟩ (.int .i64 (X - (z - Y))) = w7 at *
  have Nt1:=Lib.hid ss.1
  have NRt1:=Lib.hid (NRt0.out.span ss.2 (.inl (by have:=GLO.out;omega)))
  have Bt1:=Lib.hid (bl_frm Bt0.out ss.2 (by have:=GLO.out;omega))
  have BX1:=ss.1.blk
  unfold btL at BX1
  simp only at BX1
  rw [E2.out] at BX1
  obtain ⟨y1,-⟩:=BX1.cell 1 _ rfl
  clear ss BX1 HNc H1 H2 Nt0 NRt0 Bt0 BR N6 NX6 NA6 NR6 B6
  go_wp2_with (first
    | ((with_reducible refine at_st 2 (.tmp 89) (.tmp 88) rfl ?_);(refine wpList_store_el 2 rfl (.tmp 89) (.tmp 88) rfl (by kernel_rfl) ⟨b2,o2 + i,none⟩ rfl (.int .i64 z) rfl rfl _ (Nt1.out.rows.r2.cellE E2.out i LS.out.2.1).1 (Nt1.out.rows.r2.cellE E2.out i LS.out.2.1).2 ?_);have ss:=Nt1.out.setBt E2.out i LS.out.2.1 z;obtain ⟨wt2,ew⟩ : ∃ W : World,W = w7.setCell ⟨b2,o2 + i,none⟩ (.int .i64 z):=⟨_,rfl⟩;rw [← ew] at ss ⊢;clear ew;have Nt2:=Lib.hid ss.1;have Ft2:=Lib.hid ss.2;clear ss;have NRt2:=Lib.hid (NRt1.out.span Ft2.out (.inl (by have:=GLO.out;omega)));have Bt2:=Lib.hid (bl_frm Bt1.out Ft2.out (by have:=GLO.out;omega));have BX2:=Nt2.out.blk;unfold btL at BX2;simp only at BX2;rw [E5.out] at BX2;obtain ⟨u4,-⟩:=BX2.cell 4 _ rfl;clear BX2)
    | ((with_reducible refine at_st 4 (.tmp 93) (.const (.bool true)) rfl ?_);(refine wpList_store_el 4 rfl (.tmp 93) (.const (.bool true)) rfl (by kernel_rfl) ⟨b5,o5 + i,none⟩ rfl (.bool true) rfl rfl _ (Nt2.out.rows.r5.cellE E5.out i LA.out.1).1 (Nt2.out.rows.r5.cellE E5.out i LA.out.1).2 ?_);have ss:=Nt2.out.setAc E5.out i LA.out.1 true;obtain ⟨wt3,ew⟩ : ∃ W : World,W = wt2.setCell ⟨b5,o5 + i,none⟩ (.bool true):=⟨_,rfl⟩;rw [← ew] at ss ⊢;clear ew;have Nt3:=Lib.hid ss.1;have Ft3:=Lib.hid ss.2;clear ss;have NRt3:=Lib.hid (NRt2.out.span Ft3.out (.inl (by have:=GLO.out;omega)));have Bt3:=Lib.hid (bl_frm Bt2.out Ft3.out (by have:=GLO.out;omega));obtain ⟨d,ed⟩ : ∃ d : Bt,d = { c with st:=c.st.set i (X - (z - Y)),bt:=c.bt.set i z,ac:=c.ac.set i true }:=⟨_,rfl⟩;have Nd:=Lib.hid (show NC wt3 lo g5 M d from ed ▸ Nt3.out);have hd:=HD.out d ed;have KN:=Lib.hid (fun (W : World) (hW : Rd5 W M d)=>l10Next_any M d i W hW hd.1 (by omega) (by omega));have HAP:=Lib.hid hd.2;clear hd Nt3 ed;unfold bV at KN;have BX3:=Nd.out.blk;unfold btL at BX3;obtain ⟨v0,-⟩:=BX3.cell 0 _ rfl;obtain ⟨v1,-⟩:=BX3.cell 1 _ rfl;obtain ⟨v2,-⟩:=BX3.cell 2 _ rfl;obtain ⟨v3,-⟩:=BX3.cell 3 _ rfl;obtain ⟨v4,-⟩:=BX3.cell 4 _ rfl;obtain ⟨v5,-⟩:=BX3.cell 5 _ rfl;obtain ⟨v6,-⟩:=BX3.cell 6 _ rfl;obtain ⟨v7,-⟩:=BX3.cell 7 _ rfl;obtain ⟨v8,-⟩:=BX3.cell 8 _ rfl;clear BX3)
    | (go_at_call 152;refine (KN.out _ Nd.out.rows.rd).mono ?_;rintro e wt4 ⟨rfl,hb⟩;have Nt4:=Lib.hid (Nd.out.below hb);have NRt4:=Lib.hid (NRt3.out.below hb);have Bt4:=Lib.hid (bl_trans Bt3.out hb);clear hb)
    | ((with_reducible refine wpList_store_at 2 rfl (.tmp 97) (.tmp 96) rfl i1 g5 5 rfl (.int .i64 (nxtG d i)) rfl rfl _ _ Nt4.out.blk ?_ ?_);(exact (by simp));intro wt5 k5 g5x;have ss:=Nt4.out.setTu (nxtG d i) k5 g5x;have Nt5:=Lib.hid ss.1;have Ft5:=Lib.hid ss.2;clear ss k5 g5x;have NRt5:=Lib.hid (NRt4.out.span Ft5.out (.inl (by have:=GLO.out;omega)));have Bt5:=Lib.hid (bl_frm Bt4.out Ft5.out (by have:=GLO.out;omega));have BX5:=Nt5.out.blk;unfold btL at BX5;simp only at BX5;obtain ⟨x0,-⟩:=BX5.cell 0 _ rfl;obtain ⟨x1,-⟩:=BX5.cell 1 _ rfl;obtain ⟨x2,-⟩:=BX5.cell 2 _ rfl;obtain ⟨x3,-⟩:=BX5.cell 3 _ rfl;obtain ⟨x4,-⟩:=BX5.cell 4 _ rfl;obtain ⟨x5,-⟩:=BX5.cell 5 _ rfl;obtain ⟨x6,-⟩:=BX5.cell 6 _ rfl;obtain ⟨x7,-⟩:=BX5.cell 7 _ rfl;obtain ⟨x8,-⟩:=BX5.cell 8 _ rfl;clear BX5)
    | ((with_reducible refine at_st 27 (.tmp 4) (.tmp 98) rfl ?_);(refine wpList_store_blk 27 9 rfl (.tmp 4) (.tmp 98) rfl iB (w.heap.size + 1 + 1) rfl [.slice M.a1 d.st.length M.c1,.slice M.a2 d.bt.length M.c2,.slice M.a3 d.pd.length M.c3,.slice M.a4 d.fo.length M.c4,.slice M.a5 d.ac.length M.c5,.int .i64 (nxtG d i),.int .i64 d.un,.int .i64 d.ra,.int .i64 d.li] rfl rfl (by simp [Value.oneCell']) _ NRt5.out rfl ?_);intro w12 k9 g9;have B12:=Lib.hid (below_grown1 Bt5.out g9 (by omega));have R12:=Lib.hid (Nt5.out.rows.grownB g9 (by have:=GLO.out;omega))))
  obtain ⟨z0,_⟩:=k9.cell 0 _ rfl
  obtain ⟨z1,_⟩:=k9.cell 1 _ rfl
  obtain ⟨z2,_⟩:=k9.cell 2 _ rfl
  obtain ⟨z3,_⟩:=k9.cell 3 _ rfl
  obtain ⟨z4,_⟩:=k9.cell 4 _ rfl
  obtain ⟨z5,_⟩:=k9.cell 5 _ rfl
  obtain ⟨z6,_⟩:=k9.cell 6 _ rfl
  obtain ⟨z7,_⟩:=k9.cell 7 _ rfl
  obtain ⟨z8,_⟩:=k9.cell 8 _ rfl
  exact bodyPost_ret (v:=.agg #[.slice M.a1 d.st.length M.c1,.slice M.a2 d.bt.length M.c2,.slice M.a3 d.pd.length M.c3,.slice M.a4 d.fo.length M.c4,.slice M.a5 d.ac.length M.c5,.int .i64 (nxtG d i),.int .i64 d.un,.int .i64 d.ra,.int .i64 d.li]) (by simp [results,Try.results90,go_sem,z0,z1,z2,z3,z4,z5,z6,z7,z8]) rfl ⟨M,by rw [HAP.out];rfl,by rw [HAP.out];exact R12.out.less (by have:=GLO.out;omega),B12.out⟩
 ·obtain ⟨rfl,rfl,hck⟩:=hk
  obtain ⟨c,ec⟩ : ∃ c : Bt,c = b:=⟨_,rfl⟩
  have LS : Hid (i < c.st.length ∧ i < c.bt.length ∧ (i : Int) < c.st.length ∧ (i : Int) < c.bt.length):=Lib.hid (by rw [ec];exact ⟨hil,hil2,d1,d2⟩)
  have XC : Hid (nth c.st i = X):=Lib.hid (by rw [ec];exact EX.out.symm)
  have YC : Hid (nth c.bt i = Y):=Lib.hid (by rw [ec];exact EY.out.symm)
  have LA : Hid (i < c.ac.length ∧ (i : Int) < c.ac.length):=Lib.hid (by rw [ec];exact ⟨hil5,d5⟩)
  obtain ⟨m,em⟩ : ∃ m : Int,m = minT (t - Y) X:=⟨_,rfl⟩
  have ecl : callI b = m:=by rw [em,et,ey,ex];unfold callI missI;rw [hn]
  obtain ⟨z,ez⟩ : ∃ z : Int,z = Y + m:=⟨_,rfl⟩
  have HD : Hid (∀ d : Bt,d = { c with st:=c.st.set i (X - (z - Y)),bt:=c.bt.set i z,ac:=c.ac.set i true } → Sd d ∧ appB b 2 0 = { d with tu:=nxtG d i }):=Lib.hid (fun d hd=>HAPB d (by
   rw [hd,ec]
   rw [show X - (z - Y) = nth b.st i - callI b by omega,show z = nth b.bt i + callI b by omega]
   unfold setAc actB more
   simp [hn]))
  have EC:=Lib.hid ec
  have EZ:=Lib.hid ez
  have bm:=minT_le (t - Y) X
  have bz : -10000000 ≤ z ∧ z ≤ 10000000:=by omega
  have dn : (if X < t - Y then X else t - Y) = m:=by rw [em];rfl
  have dz : Y + m = z:=ez.symm
  clear ec HAPB et ex ey hl hn l2 l4 l5 hck ez em ecl bm
  have b1:=bl_box (w:=w) (L:=L) (b:=b)
  have b2:=bl_alloc (bl_refl (w.alloc (.cells (btL L b).toArray 27))) (.cells ([.int .i64 2,.int .i64 0] : List Value).toArray 34)
  have b3:=bl_alloc (bl_refl ((w.alloc (.cells (btL L b).toArray 27)).alloc (.cells ([.int .i64 2,.int .i64 0] : List Value).toArray 34))) (.cells ([.slice none 0 0,.slice none 0 0,.slice none 0 0,.slice none 0 0,.slice none 0 0,.int .i64 0,.int .i64 0,.int .i64 0,.int .i64 0] : List Value).toArray 27)
  have BT:=((btAt_new h).below b2).below b3
  have n1:=blk_new (w.alloc (.cells (btL L b).toArray 27)) 34 [.int .i64 2,.int .i64 0]
  rw [World.size_alloc] at n1
  have n2:=blk_new ((w.alloc (.cells (btL L b).toArray 27)).alloc (.cells ([.int .i64 2,.int .i64 0] : List Value).toArray 34)) 27 [.slice none 0 0,.slice none 0 0,.slice none 0 0,.slice none 0 0,.slice none 0 0,.int .i64 0,.int .i64 0,.int .i64 0,.int .i64 0]
  rw [World.size_alloc,World.size_alloc] at n2
  have B:=Lib.hid (bl_trans (bl_trans b1 b2) b3)
  have NA:=Lib.hid (n1.below b3)
  have NR:=Lib.hid n2
  have NX:=Lib.hid BT.blk
  have RX:=Lib.hid BT.rd
  have KO:=Lib.hid (l10OwnX_any L b _ BT.rd kk.sm)
  have BT1:=BT.blk
  obtain ⟨lo,elo⟩ : ∃ lo,lo = (((w.alloc (.cells (btL L b).toArray 27)).alloc (.cells ([.int .i64 2,.int .i64 0] : List Value).toArray 34)).alloc (.cells ([.slice none 0 0,.slice none 0 0,.slice none 0 0,.slice none 0 0,.slice none 0 0,.int .i64 0,.int .i64 0,.int .i64 0,.int .i64 0] : List Value).toArray 27)).heap.size:=⟨_,rfl⟩
  have hlo : w.heap.size + 1 + 1 < lo:=by rw [elo];simp only [World.size_alloc];omega
  obtain ⟨q0,-⟩:=BT1.cell 0 _ rfl
  obtain ⟨q1,-⟩:=BT1.cell 1 _ rfl
  obtain ⟨q2,-⟩:=BT1.cell 2 _ rfl
  obtain ⟨q3,-⟩:=BT1.cell 3 _ rfl
  obtain ⟨q4,-⟩:=BT1.cell 4 _ rfl
  obtain ⟨q5,-⟩:=BT1.cell 5 _ rfl
  obtain ⟨q6,-⟩:=BT1.cell 6 _ rfl
  obtain ⟨q7,-⟩:=BT1.cell 7 _ rfl
  obtain ⟨q8,-⟩:=BT1.cell 8 _ rfl
  clear BT1 n1 n2 b1 b2 b3
  clear hi
  unfold bV at *
  go_enter Try.func90,Try.ntmps90
  go_wp2_with ((go_at_call 112;refine KO.out.mono ?_;rintro e w4 ⟨M,rfl,hr,hb⟩;rw [← elo] at hr;have hb5:=bl_trans hb (bl_alloc (bl_refl w4) (.cells (btL M b).toArray 27));have N5:=Lib.hid (NC.new hr (by rw [elo];exact hb.size));have NX5:=Lib.hid (NX.out.below hb5);have RX5:=Lib.hid (RX.out.below hb5);have NA5:=Lib.hid (NA.out.below hb5);have NR5:=Lib.hid (NR.out.below hb5);have B5:=Lib.hid (bl_trans B.out hb5);clear hr hb hb5))
  have GLO:=Lib.hid (And.intro hlo (Nat.le_refl lo))
  obtain ⟨g5,eg⟩ : ∃ g,g = w4.heap.size:=⟨_,rfl⟩
  obtain ⟨w5,e5⟩ : ∃ W,W = w4.alloc (.cells (btL M b).toArray 27):=⟨_,rfl⟩
  rw [← e5,← eg] at N5
  rw [← e5] at NX5 RX5 NA5 NR5 B5
  simp only [btL,List.toArray] at e5
  rw [← eg,← e5]
  clear eg e5 elo hlo KO BT NA NR NX RX B
  have NX5i : Hid (Blk w5 w.heap.size 27 [.slice L.a1 b.st.length L.c1,.slice L.a2 b.bt.length L.c2,.slice L.a3 b.pd.length L.c3,.slice L.a4 b.fo.length L.c4,.slice L.a5 b.ac.length L.c5,.int .i64 i,.int .i64 b.un,.int .i64 b.ra,.int .i64 b.li]):=Lib.hid (by have q:=NX5.out;unfold btL at q;rw [HI.out] at q;exact q)
  have KMX : Hid (∀ W : World,Rd5 W L b → Calls Try.prog 137 #[.agg #[.slice L.a1 b.st.length L.c1,.slice L.a2 b.bt.length L.c2,.slice L.a3 b.pd.length L.c3,.slice L.a4 b.fo.length L.c4,.slice L.a5 b.ac.length L.c5,.int .i64 i,.int .i64 b.un,.int .i64 b.ra,.int .i64 b.li]] W (Fresh (.int .i64 t) W)):=Lib.hid (fun W hW=>by have q:=KM.out L W hW;unfold bV at q;rw [HI.out] at q;exact q)
  refine wp_region_W (last:=5) (k:=5) hmx rfl (fun HC0=>?_)
  refine wpAnyR_takeL (i:=0) (kw:=6) (v:=.pointer (some ⟨w.heap.size,5,none⟩)) (fun _=>bl_refl _) (fun p q=>bl_trans p q) rfl rfl (by kernel_rfl) (by kernel_rfl) (by kernel_rfl) (by kernel_rfl) (fun _ _ _ h=>h) HC0 (Or.inl ⟨by kernel_rfl,fun W' hI=>?_⟩) (fun HC1=>?_)
  ·exact .inl (by go_simp)
  refine wpAnyR_takeL (i:=1) (kw:=6) (v:=.int .i64 i) (fun _=>bl_refl _) (fun p q=>bl_trans p q) rfl rfl (by kernel_rfl) (by kernel_rfl) (by kernel_rfl) (by kernel_rfl) (fun _ _ _ h=>h) HC1 (Or.inl ⟨by kernel_rfl,fun W' hI=>?_⟩) (fun HC2=>?_)
  ·have hv:=(NX5i.out).below hI
   obtain ⟨z5,_⟩:=hv.cell 5 _ rfl
   exact .inl (by go_simp)
  refine wpAnyR_takeL (i:=2) (kw:=2) (v:=.agg #[.slice L.a1 b.st.length L.c1,.slice L.a2 b.bt.length L.c2,.slice L.a3 b.pd.length L.c3,.slice L.a4 b.fo.length L.c4,.slice L.a5 b.ac.length L.c5,.int .i64 i,.int .i64 b.un,.int .i64 b.ra,.int .i64 b.li]) (fun _=>bl_refl _) (fun p q=>bl_trans p q) rfl rfl (by kernel_rfl) (by kernel_rfl) (by kernel_rfl) (by kernel_rfl) (fun _ _ _ h=>h) HC2 (Or.inl ⟨by kernel_rfl,fun W' hI=>?_⟩) (fun HC3=>?_)
  ·have hv:=(NX5i.out).below hI
   obtain ⟨z0,_⟩:=hv.cell 0 _ rfl
   obtain ⟨z1,_⟩:=hv.cell 1 _ rfl
   obtain ⟨z2,_⟩:=hv.cell 2 _ rfl
   obtain ⟨z3,_⟩:=hv.cell 3 _ rfl
   obtain ⟨z4,_⟩:=hv.cell 4 _ rfl
   obtain ⟨z5,_⟩:=hv.cell 5 _ rfl
   obtain ⟨z6,_⟩:=hv.cell 6 _ rfl
   obtain ⟨z7,_⟩:=hv.cell 7 _ rfl
   obtain ⟨z8,_⟩:=hv.cell 8 _ rfl
   exact .inl (by go_simp)
  refine wpAnyR_takeL (i:=3) (kw:=1) (v:=.int .i64 t) (fun _=>bl_refl _) (fun p q=>bl_trans p q) rfl rfl (by kernel_rfl) (by kernel_rfl) (by kernel_rfl) (by kernel_rfl) (fun _ _ _ h=>h) HC3 (Or.inl ⟨by kernel_rfl,fun W' hI=>?_⟩) (fun HC4=>?_)
  ·exact .inr ⟨137,#[.agg #[.slice L.a1 b.st.length L.c1,.slice L.a2 b.bt.length L.c2,.slice L.a3 b.pd.length L.c3,.slice L.a4 b.fo.length L.c4,.slice L.a5 b.ac.length L.c5,.int .i64 i,.int .i64 b.un,.int .i64 b.ra,.int .i64 b.li]],by go_simp,KMX.out W' (RX5.out.below hI)⟩
  refine wpAnyR_takeL (i:=4) (kw:=6) (v:=.int .i64 i) (fun _=>bl_refl _) (fun p q=>bl_trans p q) rfl rfl (by kernel_rfl) (by kernel_rfl) (by kernel_rfl) (by kernel_rfl) (fun _ _ _ h=>h) HC4 (Or.inl ⟨by kernel_rfl,fun W' hI=>?_⟩) (fun HC5=>?_)
  ·exact .inl (by go_simp)
  refine wpAnyR_lastL (by kernel_rfl) (by kernel_rfl) rfl (by kernel_rfl) (fun wR hrR=>⟨bl_drewT hrR,?_⟩)
  intro K hK
  have BR:=Lib.hid (bl_drewT hrR)
  clear hrR
  go_simp
  refine hK _ _ ?_
  clear hK K
  have N6:=Lib.hid (N5.out.below BR.out)
  have NX6:=Lib.hid (NX5i.out.below BR.out)
  have NA6:=Lib.hid (NA5.out.below BR.out)
  have NR6:=Lib.hid (NR5.out.below BR.out)
  have B6:=Lib.hid (bl_trans B5.out BR.out)
  clear N5 NX5 NX5i RX5 NA5 NR5 B5 BR KMX
  obtain ⟨b1,o1,e1,-⟩:=N6.out.rows.r1.rd.at_0 i hil
  obtain ⟨b2,o2,e2,-⟩:=N6.out.rows.r2.rd.at_0 i hil2
  obtain ⟨b4,o4,e4,-⟩:=N6.out.rows.r4.rd.at_0 i hil4
  obtain ⟨b5,o5,e5,-⟩:=N6.out.rows.r5.rd.at_0 i hil5
  have E1:=Lib.hid e1
  have E2:=Lib.hid e2
  have E4:=Lib.hid e4
  have E5:=Lib.hid e5
  clear e1 e2 e4 e5
  have cx:=(N6.out.rows.r1.cellE E1.out i hil).1
  have cy:=(N6.out.rows.r2.cellE E2.out i hil2).1
  rw [← EX.out] at cx
  rw [← EY.out] at cy
  have BX6:=N6.out.blk
  unfold btL at BX6
  rw [E1.out,E2.out,E4.out,E5.out] at BX6
  obtain ⟨y0,-⟩:=BX6.cell 0 _ rfl
  obtain ⟨y1,-⟩:=BX6.cell 1 _ rfl
  obtain ⟨y3,-⟩:=BX6.cell 3 _ rfl
  obtain ⟨y7,-⟩:=BX6.cell 7 _ rfl
  obtain ⟨p0,-⟩:=NA6.out.cell 0 _ rfl
  obtain ⟨p1,-⟩:=NA6.out.cell 1 _ rfl
  clear BX6
  go_wp2_with fail
  have Nc:=Lib.hid (show NC wR lo g5 M c from EC.out ▸ N6.out)
  clear N6
  have N6:=Nc
  clear Nc dn dz
  clear cx cy y0 y1 y3 y7 p0 p1
  have HNc : Hid (Blk wR g5 27 [.slice (some ⟨b1,o1,none⟩) c.st.length M.c1,.slice (some ⟨b2,o2,none⟩) c.bt.length M.c2,.slice M.a3 c.pd.length M.c3,.slice M.a4 c.fo.length M.c4,.slice M.a5 c.ac.length M.c5,.int .i64 c.tu,.int .i64 c.un,.int .i64 c.ra,.int .i64 c.li]):=Lib.hid (by have q:=N6.out.blk;unfold btL at q;rw [E1.out,E2.out] at q;exact q)
  have hc1:=(N6.out.rows.r1.cellE E1.out i LS.out.1).1
  have hc2:=(N6.out.rows.r2.cellE E2.out i LS.out.2.1).1
  rw [XC.out] at hc1
  rw [YC.out] at hc2
  have H1 : Hid (∀ W',Below wR.heap.size wR W' → W'.cell? ⟨b1,o1 + i,none⟩ = some (.int .i64 X)):=Lib.hid (fun W' hI=>(hI.cell (p:=⟨b1,o1 + i,none⟩) (World.block_lt_of_cell? _ _ hc1)).trans hc1)
  have H2 : Hid (∀ W',Below wR.heap.size wR W' → W'.cell? ⟨b2,o2 + i,none⟩ = some (.int .i64 Y)):=Lib.hid (fun W' hI=>(hI.cell (p:=⟨b2,o2 + i,none⟩) (World.block_lt_of_cell? _ _ hc2)).trans hc2)
  clear hc1 hc2
  have dc1:=LS.out.2.2.1
  have dc2:=LS.out.2.2.2
  have dc5:=LA.out.2
  refine wp_region_W (last:=17) (k:=17) hmx rfl (fun HD0=>?_)
  refine wpAnyR_takeL (i:=0) (kw:=3) (v:=.pointer (some ⟨g5,0,none⟩)) (fun _=>bl_refl _) (fun p q=>bl_trans p q) rfl rfl (by kernel_rfl) (by kernel_rfl) (by kernel_rfl) (by kernel_rfl) (fun _ _ _ h=>h) HD0 (Or.inl ⟨by kernel_rfl,fun W' hI=>?_⟩) (fun HD1=>?_)
  ·exact .inl (by go_simp)
  refine wpAnyR_takeL (i:=1) (kw:=2) (v:=.slice (some ⟨b1,o1,none⟩) c.st.length M.c1) (fun _=>bl_refl _) (fun p q=>bl_trans p q) rfl rfl (by kernel_rfl) (by kernel_rfl) (by kernel_rfl) (by kernel_rfl) (fun _ _ _ h=>h) HD1 (Or.inl ⟨by kernel_rfl,fun W' hI=>?_⟩) (fun HD2=>?_)
  ·have hv:=(HNc.out).below hI
   obtain ⟨z0,_⟩:=hv.cell 0 _ rfl
   exact .inl (by go_simp)
  refine wpAnyR_takeL (i:=2) (kw:=2) (v:=.int .i64 i) (fun _=>bl_refl _) (fun p q=>bl_trans p q) rfl rfl (by kernel_rfl) (by kernel_rfl) (by kernel_rfl) (by kernel_rfl) (fun _ _ _ h=>h) HD2 (Or.inl ⟨by kernel_rfl,fun W' hI=>?_⟩) (fun HD3=>?_)
  ·exact .inl (by go_simp)
  refine wpAnyR_takeL (i:=3) (kw:=5) (v:=.pointer (some ⟨g5,0,none⟩)) (fun _=>bl_refl _) (fun p q=>bl_trans p q) rfl rfl (by kernel_rfl) (by kernel_rfl) (by kernel_rfl) (by kernel_rfl) (fun _ _ _ h=>h) HD3 (Or.inl ⟨by kernel_rfl,fun W' hI=>?_⟩) (fun HD4=>?_)
  ·exact .inl (by go_simp)
  refine wpAnyR_takeL (i:=4) (kw:=4) (v:=.slice (some ⟨b1,o1,none⟩) c.st.length M.c1) (fun _=>bl_refl _) (fun p q=>bl_trans p q) rfl rfl (by kernel_rfl) (by kernel_rfl) (by kernel_rfl) (by kernel_rfl) (fun _ _ _ h=>h) HD4 (Or.inl ⟨by kernel_rfl,fun W' hI=>?_⟩) (fun HD5=>?_)
  ·have hv:=(HNc.out).below hI
   obtain ⟨z0,_⟩:=hv.cell 0 _ rfl
   exact .inl (by go_simp)
  refine wpAnyR_takeL (i:=5) (kw:=4) (v:=.int .i64 i) (fun _=>bl_refl _) (fun p q=>bl_trans p q) rfl rfl (by kernel_rfl) (by kernel_rfl) (by kernel_rfl) (by kernel_rfl) (fun _ _ _ h=>h) HD5 (Or.inl ⟨by kernel_rfl,fun W' hI=>?_⟩) (fun HD6=>?_)
  ·exact .inl (by go_simp)
  refine wpAnyR_takeL (i:=6) (kw:=3) (v:=.pointer (some ⟨b1,o1 + i,none⟩)) (fun _=>bl_refl _) (fun p q=>bl_trans p q) rfl rfl (by kernel_rfl) (by kernel_rfl) (by kernel_rfl) (by kernel_rfl) (fun _ _ _ h=>h) HD6 (Or.inl ⟨by kernel_rfl,fun W' hI=>?_⟩) (fun HD7=>?_)
  ·exact .inl (by go_simp)
  refine wpAnyR_takeL (i:=7) (kw:=2) (v:=.int .i64 X) (fun _=>bl_refl _) (fun p q=>bl_trans p q) rfl rfl (by kernel_rfl) (by kernel_rfl) (by kernel_rfl) (by kernel_rfl) (fun _ _ _ h=>h) HD7 (Or.inl ⟨by kernel_rfl,fun W' hI=>?_⟩) (fun HD8=>?_)
  ·have hx:=H1.out W' hI
   exact .inl (by go_simp)
  refine wpAnyR_takeL (i:=8) (kw:=3) (v:=.int .i64 z) (fun _=>bl_refl _) (fun p q=>bl_trans p q) rfl rfl (by kernel_rfl) (by kernel_rfl) (by kernel_rfl) (by kernel_rfl) (fun _ _ _ h=>h) HD8 (Or.inl ⟨by kernel_rfl,fun W' hI=>?_⟩) (fun HD9=>?_)
  ·exact .inl (by go_simp)
  refine wpAnyR_takeL (i:=9) (kw:=6) (v:=.pointer (some ⟨g5,1,none⟩)) (fun _=>bl_refl _) (fun p q=>bl_trans p q) rfl rfl (by kernel_rfl) (by kernel_rfl) (by kernel_rfl) (by kernel_rfl) (fun _ _ _ h=>h) HD9 (Or.inl ⟨by kernel_rfl,fun W' hI=>?_⟩) (fun HD10=>?_)
  ·exact .inl (by go_simp)
  refine wpAnyR_takeL (i:=10) (kw:=5) (v:=.slice (some ⟨b2,o2,none⟩) c.bt.length M.c2) (fun _=>bl_refl _) (fun p q=>bl_trans p q) rfl rfl (by kernel_rfl) (by kernel_rfl) (by kernel_rfl) (by kernel_rfl) (fun _ _ _ h=>h) HD10 (Or.inl ⟨by kernel_rfl,fun W' hI=>?_⟩) (fun HD11=>?_)
  ·have hv:=(HNc.out).below hI
   obtain ⟨z1,_⟩:=hv.cell 1 _ rfl
   exact .inl (by go_simp)
  refine wpAnyR_takeL (i:=11) (kw:=5) (v:=.int .i64 i) (fun _=>bl_refl _) (fun p q=>bl_trans p q) rfl rfl (by kernel_rfl) (by kernel_rfl) (by kernel_rfl) (by kernel_rfl) (fun _ _ _ h=>h) HD11 (Or.inl ⟨by kernel_rfl,fun W' hI=>?_⟩) (fun HD12=>?_)
  ·exact .inl (by go_simp)
  refine wpAnyR_takeL (i:=12) (kw:=4) (v:=.pointer (some ⟨b2,o2 + i,none⟩)) (fun _=>bl_refl _) (fun p q=>bl_trans p q) rfl rfl (by kernel_rfl) (by kernel_rfl) (by kernel_rfl) (by kernel_rfl) (fun _ _ _ h=>h) HD12 (Or.inl ⟨by kernel_rfl,fun W' hI=>?_⟩) (fun HD13=>?_)
  ·exact .inl (by go_simp)
  refine wpAnyR_takeL (i:=13) (kw:=3) (v:=.int .i64 Y) (fun _=>bl_refl _) (fun p q=>bl_trans p q) rfl rfl (by kernel_rfl) (by kernel_rfl) (by kernel_rfl) (by kernel_rfl) (fun _ _ _ h=>h) HD13 (Or.inl ⟨by kernel_rfl,fun W' hI=>?_⟩) (fun HD14=>?_)
  ·have hx:=H2.out W' hI
   exact .inl (by go_simp)
  refine wpAnyR_takeL (i:=14) (kw:=2) (v:=.int .i64 (z - Y)) (fun _=>bl_refl _) (fun p q=>bl_trans p q) rfl rfl (by kernel_rfl) (by kernel_rfl) (by kernel_rfl) (by kernel_rfl) (fun _ _ _ h=>h) HD14 (Or.inl ⟨by kernel_rfl,fun W' hI=>?_⟩) (fun HD15=>?_)
  ·exact .inl (by go_simp;first | done | exact IntWalk.i64_in _ (by omega))
  refine wpAnyR_takeL (i:=15) (kw:=1) (v:=.int .i64 (X - (z - Y))) (fun _=>bl_refl _) (fun p q=>bl_trans p q) rfl rfl (by kernel_rfl) (by kernel_rfl) (by kernel_rfl) (by kernel_rfl) (fun _ _ _ h=>h) HD15 (Or.inl ⟨by kernel_rfl,fun W' hI=>?_⟩) (fun HD16=>?_)
  ·exact .inl (by go_simp;first | done | exact IntWalk.i64_in _ (by omega))
  refine wpAnyR_takeL (i:=16) (kw:=1) (v:=.pointer (some ⟨b1,o1 + i,none⟩)) (fun _=>bl_refl _) (fun p q=>bl_trans p q) rfl rfl (by kernel_rfl) (by kernel_rfl) (by kernel_rfl) (by kernel_rfl) (fun _ _ _ h=>h) HD16 (Or.inl ⟨by kernel_rfl,fun W' hI=>?_⟩) (fun HD17=>?_)
  ·exact .inl (by go_simp)
  refine wpAnyR_lastL (by kernel_rfl) (by kernel_rfl) rfl (by kernel_rfl) (fun wS hrR=>⟨bl_drewT hrR,?_⟩)
  intro K hK
  have BR:=Lib.hid (bl_drewT hrR)
  clear hrR
  have Nt0:=Lib.hid (N6.out.below BR.out)
  have NRt0:=Lib.hid (NR6.out.below BR.out)
  have Bt0:=Lib.hid (bl_trans B6.out BR.out)
  have c4:=(Nt0.out.rows.r1.cellE E1.out i LS.out.1).1
  have f4:=(Nt0.out.rows.r1.cellE E1.out i LS.out.1).2
  go_simp
  refine hK _ _ ?_
  clear hK K
  have ss:=Nt0.out.setSt E1.out i LS.out.1 (X - (z - Y))
  clear c4 f4
  generalize wS.setCell ⟨b1,o1 + i,none⟩ (.int .i64 (X - (z - Y))) = w7 at *
  have Nt1:=Lib.hid ss.1
  have NRt1:=Lib.hid (NRt0.out.span ss.2 (.inl (by have:=GLO.out;omega)))
  have Bt1:=Lib.hid (bl_frm Bt0.out ss.2 (by have:=GLO.out;omega))
  have BX1:=ss.1.blk
  unfold btL at BX1
  simp only at BX1
  rw [E2.out] at BX1
  obtain ⟨y1,-⟩:=BX1.cell 1 _ rfl
  clear ss BX1 HNc H1 H2 Nt0 NRt0 Bt0 BR N6 NX6 NA6 NR6 B6
  go_wp2_with (first
    | ((with_reducible refine at_st 2 (.tmp 89) (.tmp 88) rfl ?_);(refine wpList_store_el 2 rfl (.tmp 89) (.tmp 88) rfl (by kernel_rfl) ⟨b2,o2 + i,none⟩ rfl (.int .i64 z) rfl rfl _ (Nt1.out.rows.r2.cellE E2.out i LS.out.2.1).1 (Nt1.out.rows.r2.cellE E2.out i LS.out.2.1).2 ?_);have ss:=Nt1.out.setBt E2.out i LS.out.2.1 z;obtain ⟨wt2,ew⟩ : ∃ W : World,W = w7.setCell ⟨b2,o2 + i,none⟩ (.int .i64 z):=⟨_,rfl⟩;rw [← ew] at ss ⊢;clear ew;have Nt2:=Lib.hid ss.1;have Ft2:=Lib.hid ss.2;clear ss;have NRt2:=Lib.hid (NRt1.out.span Ft2.out (.inl (by have:=GLO.out;omega)));have Bt2:=Lib.hid (bl_frm Bt1.out Ft2.out (by have:=GLO.out;omega));have BX2:=Nt2.out.blk;unfold btL at BX2;simp only at BX2;rw [E5.out] at BX2;obtain ⟨u4,-⟩:=BX2.cell 4 _ rfl;clear BX2)
    | ((with_reducible refine at_st 4 (.tmp 93) (.const (.bool true)) rfl ?_);(refine wpList_store_el 4 rfl (.tmp 93) (.const (.bool true)) rfl (by kernel_rfl) ⟨b5,o5 + i,none⟩ rfl (.bool true) rfl rfl _ (Nt2.out.rows.r5.cellE E5.out i LA.out.1).1 (Nt2.out.rows.r5.cellE E5.out i LA.out.1).2 ?_);have ss:=Nt2.out.setAc E5.out i LA.out.1 true;obtain ⟨wt3,ew⟩ : ∃ W : World,W = wt2.setCell ⟨b5,o5 + i,none⟩ (.bool true):=⟨_,rfl⟩;rw [← ew] at ss ⊢;clear ew;have Nt3:=Lib.hid ss.1;have Ft3:=Lib.hid ss.2;clear ss;have NRt3:=Lib.hid (NRt2.out.span Ft3.out (.inl (by have:=GLO.out;omega)));have Bt3:=Lib.hid (bl_frm Bt2.out Ft3.out (by have:=GLO.out;omega));obtain ⟨d,ed⟩ : ∃ d : Bt,d = { c with st:=c.st.set i (X - (z - Y)),bt:=c.bt.set i z,ac:=c.ac.set i true }:=⟨_,rfl⟩;have Nd:=Lib.hid (show NC wt3 lo g5 M d from ed ▸ Nt3.out);have hd:=HD.out d ed;have KN:=Lib.hid (fun (W : World) (hW : Rd5 W M d)=>l10Next_any M d i W hW hd.1 (by omega) (by omega));have HAP:=Lib.hid hd.2;clear hd Nt3 ed;unfold bV at KN;have BX3:=Nd.out.blk;unfold btL at BX3;obtain ⟨v0,-⟩:=BX3.cell 0 _ rfl;obtain ⟨v1,-⟩:=BX3.cell 1 _ rfl;obtain ⟨v2,-⟩:=BX3.cell 2 _ rfl;obtain ⟨v3,-⟩:=BX3.cell 3 _ rfl;obtain ⟨v4,-⟩:=BX3.cell 4 _ rfl;obtain ⟨v5,-⟩:=BX3.cell 5 _ rfl;obtain ⟨v6,-⟩:=BX3.cell 6 _ rfl;obtain ⟨v7,-⟩:=BX3.cell 7 _ rfl;obtain ⟨v8,-⟩:=BX3.cell 8 _ rfl;clear BX3)
    | (go_at_call 152;refine (KN.out _ Nd.out.rows.rd).mono ?_;rintro e wt4 ⟨rfl,hb⟩;have Nt4:=Lib.hid (Nd.out.below hb);have NRt4:=Lib.hid (NRt3.out.below hb);have Bt4:=Lib.hid (bl_trans Bt3.out hb);clear hb)
    | ((with_reducible refine wpList_store_at 2 rfl (.tmp 97) (.tmp 96) rfl i1 g5 5 rfl (.int .i64 (nxtG d i)) rfl rfl _ _ Nt4.out.blk ?_ ?_);(exact (by simp));intro wt5 k5 g5x;have ss:=Nt4.out.setTu (nxtG d i) k5 g5x;have Nt5:=Lib.hid ss.1;have Ft5:=Lib.hid ss.2;clear ss k5 g5x;have NRt5:=Lib.hid (NRt4.out.span Ft5.out (.inl (by have:=GLO.out;omega)));have Bt5:=Lib.hid (bl_frm Bt4.out Ft5.out (by have:=GLO.out;omega));have BX5:=Nt5.out.blk;unfold btL at BX5;simp only at BX5;obtain ⟨x0,-⟩:=BX5.cell 0 _ rfl;obtain ⟨x1,-⟩:=BX5.cell 1 _ rfl;obtain ⟨x2,-⟩:=BX5.cell 2 _ rfl;obtain ⟨x3,-⟩:=BX5.cell 3 _ rfl;obtain ⟨x4,-⟩:=BX5.cell 4 _ rfl;obtain ⟨x5,-⟩:=BX5.cell 5 _ rfl;obtain ⟨x6,-⟩:=BX5.cell 6 _ rfl;obtain ⟨x7,-⟩:=BX5.cell 7 _ rfl;obtain ⟨x8,-⟩:=BX5.cell 8 _ rfl;clear BX5)
    | ((with_reducible refine at_st 27 (.tmp 4) (.tmp 98) rfl ?_);(refine wpList_store_blk 27 9 rfl (.tmp 4) (.tmp 98) rfl iB (w.heap.size + 1 + 1) rfl [.slice M.a1 d.st.length M.c1,.slice M.a2 d.bt.length M.c2,.slice M.a3 d.pd.length M.c3,.slice M.a4 d.fo.length M.c4,.slice M.a5 d.ac.length M.c5,.int .i64 (nxtG d i),.int .i64 d.un,.int .i64 d.ra,.int .i64 d.li] rfl rfl (by simp [Value.oneCell']) _ NRt5.out rfl ?_);intro w12 k9 g9;have B12:=Lib.hid (below_grown1 Bt5.out g9 (by omega));have R12:=Lib.hid (Nt5.out.rows.grownB g9 (by have:=GLO.out;omega))))
  obtain ⟨z0,_⟩:=k9.cell 0 _ rfl
  obtain ⟨z1,_⟩:=k9.cell 1 _ rfl
  obtain ⟨z2,_⟩:=k9.cell 2 _ rfl
  obtain ⟨z3,_⟩:=k9.cell 3 _ rfl
  obtain ⟨z4,_⟩:=k9.cell 4 _ rfl
  obtain ⟨z5,_⟩:=k9.cell 5 _ rfl
  obtain ⟨z6,_⟩:=k9.cell 6 _ rfl
  obtain ⟨z7,_⟩:=k9.cell 7 _ rfl
  obtain ⟨z8,_⟩:=k9.cell 8 _ rfl
  exact bodyPost_ret (v:=.agg #[.slice M.a1 d.st.length M.c1,.slice M.a2 d.bt.length M.c2,.slice M.a3 d.pd.length M.c3,.slice M.a4 d.fo.length M.c4,.slice M.a5 d.ac.length M.c5,.int .i64 (nxtG d i),.int .i64 d.un,.int .i64 d.ra,.int .i64 d.li]) (by simp [results,Try.results90,go_sem,z0,z1,z2,z3,z4,z5,z6,z7,z8]) rfl ⟨M,by rw [HAP.out];rfl,by rw [HAP.out];exact R12.out.less (by have:=GLO.out;omega),B12.out⟩
 ·obtain ⟨rfl,hm,hx0,hx1⟩:=hk
  have hxb:=raise_bd kk hl
  have hac6 : b.ac.length ≤ 6:=by omega
  have hr0:=kk.r0
  have hr1:=kk.r1
  have hu0:=kk.u0
  have hu1:=kk.u1
  obtain ⟨ra',er⟩ : ∃ r : Int,r = minT (b.ra + 1) 4:=⟨_,rfl⟩
  have dr : (if b.ra + 1 < 4 then b.ra + 1 else 4) = ra':=by rw [er];unfold minT;split <;> split <;> omega
  have hfb : fullB b x = decide (b.un ≤ x - t):=by rw [et];rfl
  have hfix:=unit_fix kk hl
  rw [← et] at hfix
  have eraw : setAc (actB b 3 x) = { b with st:=b.st.set i (nth b.st i - (x - nth b.bt i)),bt:=b.bt.set i x,ra:=ra',un:=if fullB b x = true then x - t else b.un,ac:=(if fullB b x = true then List.replicate b.ac.length false else b.ac).set i true }:=by
   have e1 : nth b.bt i + (x - nth b.bt i) = x:=by omega
   rw [er,et]
   unfold setAc actB raiseB more
   simp [hn,e1]
  rw [eraw,← ex,← ey] at HAPB
  clear eraw
  by_cases hf : b.un ≤ x - t
  ·by_cases h2 : b.li = 2
   ·obtain ⟨c,ec⟩ : ∃ c : Bt,c = { b with ra:=ra',un:=b.un,ac:=List.replicate b.ac.length false }:=⟨_,rfl⟩
    have LS : Hid (i < c.st.length ∧ i < c.bt.length ∧ (i : Int) < c.st.length ∧ (i : Int) < c.bt.length):=Lib.hid (by rw [ec];exact ⟨hil,hil2,d1,d2⟩)
    have XC : Hid (nth c.st i = X):=Lib.hid (by rw [ec];exact EX.out.symm)
    have YC : Hid (nth c.bt i = Y):=Lib.hid (by rw [ec];exact EY.out.symm)
    have LA : Hid (i < c.ac.length ∧ (i : Int) < c.ac.length):=Lib.hid (by rw [ec];show i < (List.replicate b.ac.length false).length ∧ _ < ((List.replicate b.ac.length false).length : Int);rw [List.length_replicate];exact ⟨hil5,d5⟩)
    obtain ⟨z,ez⟩ : ∃ z : Int,z = x:=⟨_,rfl⟩
    have HD : Hid (∀ d : Bt,d = { c with st:=c.st.set i (X - (z - Y)),bt:=c.bt.set i z,ac:=c.ac.set i true } → Sd d ∧ appB b 3 x = { d with tu:=nxtG d i }):=Lib.hid (fun d hd=>HAPB d (by
     rw [hd,ec,ez,hfb,decide_eq_true hf]
     rw [← hfix (by rw [hfb];exact decide_eq_true hf) h2];rfl))
    subst ez
    have EC:=Lib.hid ec
    have bz : -10000000 ≤ z ∧ z ≤ 10000000:=by omega
    have c12 : decide (t + b.un ≤ z) = true:=decide_eq_true (by omega)
    have c13 : (b.li != (2 : Int)) = false:=by simpa using h2
    clear ec HAPB et ex ey hl hn l2 l4 l5 hm hx0 hx1 hfb hfix er h2
    have b1:=bl_box (w:=w) (L:=L) (b:=b)
    have b2:=bl_alloc (bl_refl (w.alloc (.cells (btL L b).toArray 27))) (.cells ([.int .i64 3,.int .i64 z] : List Value).toArray 34)
    have b3:=bl_alloc (bl_refl ((w.alloc (.cells (btL L b).toArray 27)).alloc (.cells ([.int .i64 3,.int .i64 z] : List Value).toArray 34))) (.cells ([.slice none 0 0,.slice none 0 0,.slice none 0 0,.slice none 0 0,.slice none 0 0,.int .i64 0,.int .i64 0,.int .i64 0,.int .i64 0] : List Value).toArray 27)
    have BT:=((btAt_new h).below b2).below b3
    have n1:=blk_new (w.alloc (.cells (btL L b).toArray 27)) 34 [.int .i64 3,.int .i64 z]
    rw [World.size_alloc] at n1
    have n2:=blk_new ((w.alloc (.cells (btL L b).toArray 27)).alloc (.cells ([.int .i64 3,.int .i64 z] : List Value).toArray 34)) 27 [.slice none 0 0,.slice none 0 0,.slice none 0 0,.slice none 0 0,.slice none 0 0,.int .i64 0,.int .i64 0,.int .i64 0,.int .i64 0]
    rw [World.size_alloc,World.size_alloc] at n2
    have B:=Lib.hid (bl_trans (bl_trans b1 b2) b3)
    have NA:=Lib.hid (n1.below b3)
    have NR:=Lib.hid n2
    have NX:=Lib.hid BT.blk
    have RX:=Lib.hid BT.rd
    have KO:=Lib.hid (l10OwnX_any L b _ BT.rd kk.sm)
    have BT1:=BT.blk
    obtain ⟨lo,elo⟩ : ∃ lo,lo = (((w.alloc (.cells (btL L b).toArray 27)).alloc (.cells ([.int .i64 3,.int .i64 z] : List Value).toArray 34)).alloc (.cells ([.slice none 0 0,.slice none 0 0,.slice none 0 0,.slice none 0 0,.slice none 0 0,.int .i64 0,.int .i64 0,.int .i64 0,.int .i64 0] : List Value).toArray 27)).heap.size:=⟨_,rfl⟩
    have hlo : w.heap.size + 1 + 1 < lo:=by rw [elo];simp only [World.size_alloc];omega
    obtain ⟨q0,-⟩:=BT1.cell 0 _ rfl
    obtain ⟨q1,-⟩:=BT1.cell 1 _ rfl
    obtain ⟨q2,-⟩:=BT1.cell 2 _ rfl
    obtain ⟨q3,-⟩:=BT1.cell 3 _ rfl
    obtain ⟨q4,-⟩:=BT1.cell 4 _ rfl
    obtain ⟨q5,-⟩:=BT1.cell 5 _ rfl
    obtain ⟨q6,-⟩:=BT1.cell 6 _ rfl
    obtain ⟨q7,-⟩:=BT1.cell 7 _ rfl
    obtain ⟨q8,-⟩:=BT1.cell 8 _ rfl
    clear BT1 n1 n2 b1 b2 b3
    clear hi
    unfold bV at *
    go_enter Try.func90,Try.ntmps90
    go_wp2_with ((go_at_call 112;refine KO.out.mono ?_;rintro e w4 ⟨M,rfl,hr,hb⟩;rw [← elo] at hr;have hb5:=bl_trans hb (bl_alloc (bl_refl w4) (.cells (btL M b).toArray 27));have N5:=Lib.hid (NC.new hr (by rw [elo];exact hb.size));have NX5:=Lib.hid (NX.out.below hb5);have RX5:=Lib.hid (RX.out.below hb5);have NA5:=Lib.hid (NA.out.below hb5);have NR5:=Lib.hid (NR.out.below hb5);have B5:=Lib.hid (bl_trans B.out hb5);clear hr hb hb5))
    have GLO:=Lib.hid (And.intro hlo (Nat.le_refl lo))
    obtain ⟨g5,eg⟩ : ∃ g,g = w4.heap.size:=⟨_,rfl⟩
    obtain ⟨w5,e5⟩ : ∃ W,W = w4.alloc (.cells (btL M b).toArray 27):=⟨_,rfl⟩
    rw [← e5,← eg] at N5
    rw [← e5] at NX5 RX5 NA5 NR5 B5
    simp only [btL,List.toArray] at e5
    rw [← eg,← e5]
    clear eg e5 elo hlo KO BT NA NR NX RX B
    have NX5i : Hid (Blk w5 w.heap.size 27 [.slice L.a1 b.st.length L.c1,.slice L.a2 b.bt.length L.c2,.slice L.a3 b.pd.length L.c3,.slice L.a4 b.fo.length L.c4,.slice L.a5 b.ac.length L.c5,.int .i64 i,.int .i64 b.un,.int .i64 b.ra,.int .i64 b.li]):=Lib.hid (by have q:=NX5.out;unfold btL at q;rw [HI.out] at q;exact q)
    have KMX : Hid (∀ W : World,Rd5 W L b → Calls Try.prog 137 #[.agg #[.slice L.a1 b.st.length L.c1,.slice L.a2 b.bt.length L.c2,.slice L.a3 b.pd.length L.c3,.slice L.a4 b.fo.length L.c4,.slice L.a5 b.ac.length L.c5,.int .i64 i,.int .i64 b.un,.int .i64 b.ra,.int .i64 b.li]] W (Fresh (.int .i64 t) W)):=Lib.hid (fun W hW=>by have q:=KM.out L W hW;unfold bV at q;rw [HI.out] at q;exact q)
    refine wp_region_W (last:=5) (k:=5) hmx rfl (fun HC0=>?_)
    refine wpAnyR_takeL (i:=0) (kw:=6) (v:=.pointer (some ⟨w.heap.size,5,none⟩)) (fun _=>bl_refl _) (fun p q=>bl_trans p q) rfl rfl (by kernel_rfl) (by kernel_rfl) (by kernel_rfl) (by kernel_rfl) (fun _ _ _ h=>h) HC0 (Or.inl ⟨by kernel_rfl,fun W' hI=>?_⟩) (fun HC1=>?_)
    ·exact .inl (by go_simp)
    refine wpAnyR_takeL (i:=1) (kw:=6) (v:=.int .i64 i) (fun _=>bl_refl _) (fun p q=>bl_trans p q) rfl rfl (by kernel_rfl) (by kernel_rfl) (by kernel_rfl) (by kernel_rfl) (fun _ _ _ h=>h) HC1 (Or.inl ⟨by kernel_rfl,fun W' hI=>?_⟩) (fun HC2=>?_)
    ·have hv:=(NX5i.out).below hI
     obtain ⟨z5,_⟩:=hv.cell 5 _ rfl
     exact .inl (by go_simp)
    refine wpAnyR_takeL (i:=2) (kw:=2) (v:=.agg #[.slice L.a1 b.st.length L.c1,.slice L.a2 b.bt.length L.c2,.slice L.a3 b.pd.length L.c3,.slice L.a4 b.fo.length L.c4,.slice L.a5 b.ac.length L.c5,.int .i64 i,.int .i64 b.un,.int .i64 b.ra,.int .i64 b.li]) (fun _=>bl_refl _) (fun p q=>bl_trans p q) rfl rfl (by kernel_rfl) (by kernel_rfl) (by kernel_rfl) (by kernel_rfl) (fun _ _ _ h=>h) HC2 (Or.inl ⟨by kernel_rfl,fun W' hI=>?_⟩) (fun HC3=>?_)
    ·have hv:=(NX5i.out).below hI
     obtain ⟨z0,_⟩:=hv.cell 0 _ rfl
     obtain ⟨z1,_⟩:=hv.cell 1 _ rfl
     obtain ⟨z2,_⟩:=hv.cell 2 _ rfl
     obtain ⟨z3,_⟩:=hv.cell 3 _ rfl
     obtain ⟨z4,_⟩:=hv.cell 4 _ rfl
     obtain ⟨z5,_⟩:=hv.cell 5 _ rfl
     obtain ⟨z6,_⟩:=hv.cell 6 _ rfl
     obtain ⟨z7,_⟩:=hv.cell 7 _ rfl
     obtain ⟨z8,_⟩:=hv.cell 8 _ rfl
     exact .inl (by go_simp)
    refine wpAnyR_takeL (i:=3) (kw:=1) (v:=.int .i64 t) (fun _=>bl_refl _) (fun p q=>bl_trans p q) rfl rfl (by kernel_rfl) (by kernel_rfl) (by kernel_rfl) (by kernel_rfl) (fun _ _ _ h=>h) HC3 (Or.inl ⟨by kernel_rfl,fun W' hI=>?_⟩) (fun HC4=>?_)
    ·exact .inr ⟨137,#[.agg #[.slice L.a1 b.st.length L.c1,.slice L.a2 b.bt.length L.c2,.slice L.a3 b.pd.length L.c3,.slice L.a4 b.fo.length L.c4,.slice L.a5 b.ac.length L.c5,.int .i64 i,.int .i64 b.un,.int .i64 b.ra,.int .i64 b.li]],by go_simp,KMX.out W' (RX5.out.below hI)⟩
    refine wpAnyR_takeL (i:=4) (kw:=6) (v:=.int .i64 i) (fun _=>bl_refl _) (fun p q=>bl_trans p q) rfl rfl (by kernel_rfl) (by kernel_rfl) (by kernel_rfl) (by kernel_rfl) (fun _ _ _ h=>h) HC4 (Or.inl ⟨by kernel_rfl,fun W' hI=>?_⟩) (fun HC5=>?_)
    ·exact .inl (by go_simp)
    refine wpAnyR_lastL (by kernel_rfl) (by kernel_rfl) rfl (by kernel_rfl) (fun wR hrR=>⟨bl_drewT hrR,?_⟩)
    intro K hK
    have BR:=Lib.hid (bl_drewT hrR)
    clear hrR
    go_simp
    refine hK _ _ ?_
    clear hK K
    have N6:=Lib.hid (N5.out.below BR.out)
    have NX6:=Lib.hid (NX5i.out.below BR.out)
    have NA6:=Lib.hid (NA5.out.below BR.out)
    have NR6:=Lib.hid (NR5.out.below BR.out)
    have B6:=Lib.hid (bl_trans B5.out BR.out)
    clear N5 NX5 NX5i RX5 NA5 NR5 B5 BR KMX
    obtain ⟨b1,o1,e1,-⟩:=N6.out.rows.r1.rd.at_0 i hil
    obtain ⟨b2,o2,e2,-⟩:=N6.out.rows.r2.rd.at_0 i hil2
    obtain ⟨b4,o4,e4,-⟩:=N6.out.rows.r4.rd.at_0 i hil4
    obtain ⟨b5,o5,e5,-⟩:=N6.out.rows.r5.rd.at_0 i hil5
    have E1:=Lib.hid e1
    have E2:=Lib.hid e2
    have E4:=Lib.hid e4
    have E5:=Lib.hid e5
    clear e1 e2 e4 e5
    have cx:=(N6.out.rows.r1.cellE E1.out i hil).1
    have cy:=(N6.out.rows.r2.cellE E2.out i hil2).1
    rw [← EX.out] at cx
    rw [← EY.out] at cy
    have BX6:=N6.out.blk
    unfold btL at BX6
    rw [E1.out,E2.out,E4.out,E5.out] at BX6
    obtain ⟨y0,-⟩:=BX6.cell 0 _ rfl
    obtain ⟨y1,-⟩:=BX6.cell 1 _ rfl
    obtain ⟨y3,-⟩:=BX6.cell 3 _ rfl
    obtain ⟨y7,-⟩:=BX6.cell 7 _ rfl
    obtain ⟨p0,-⟩:=NA6.out.cell 0 _ rfl
    obtain ⟨p1,-⟩:=NA6.out.cell 1 _ rfl
    clear BX6
    have u4x:=NX6.out
    obtain ⟨u6,-⟩:=u4x.cell 6 _ rfl
    clear u4x
    go_wp2_with (first
      | ((with_reducible refine wpList_store_at 2 rfl (.tmp 49) (.tmp 48) rfl i1 g5 7 rfl (.int .i64 ra') rfl rfl _ _ N6.out.blk ?_ ?_);(exact (by simp));intro w7 k5 g5x;have ss:=N6.out.setRa ra' k5 g5x;have N7:=Lib.hid ss.1;have F7:=Lib.hid ss.2;clear ss k5 g5x;have NX7:=Lib.hid (NX6.out.span F7.out (.inl (by have:=GLO.out;omega)));have NA7:=Lib.hid (NA6.out.span F7.out (.inl (by have:=GLO.out;omega)));have NR7:=Lib.hid (NR6.out.span F7.out (.inl (by have:=GLO.out;omega)));have B7:=Lib.hid (bl_frm B6.out F7.out (by have:=GLO.out;omega));obtain ⟨v4,-⟩:=NX7.out.cell 4 _ rfl;obtain ⟨v6,-⟩:=NX7.out.cell 6 _ rfl;obtain ⟨v8,-⟩:=NX7.out.cell 8 _ rfl)
      | (at_make;(refine wpList_makeB rfl (.tmp 65) (.tmp 65) rfl b.ac.length rfl rfl (by omega) ?_);intro w9 ho hb;obtain ⟨gz,ez⟩ : ∃ g,g = w7.heap.size:=⟨_,rfl⟩;have HF:=Lib.hid (show ∀ a,some (⟨gz,0,none⟩ : Addr) = some a → a.block ≠ g5 ∧ (∀ x,M.a1 = some x → x.block ≠ a.block) ∧ (∀ x,M.a2 = some x → x.block ≠ a.block) ∧ (∀ x,M.a3 = some x → x.block ≠ a.block) ∧ (∀ x,M.a4 = some x → x.block ≠ a.block) from fun a e=>(by obtain rfl:=Option.some.inj e;have q:=N7.out.blk.lt;rw [ez];exact ⟨Nat.ne_of_gt q,fun x ex=>Nat.ne_of_lt (N7.out.rows.r1.1 x ex).2,fun x ex=>Nat.ne_of_lt (N7.out.rows.r2.1 x ex).2,fun x ex=>Nat.ne_of_lt (N7.out.rows.r3.1 x ex).2,fun x ex=>Nat.ne_of_lt (N7.out.rows.r4.1 x ex).2⟩));have N9:=Lib.hid (N7.out.below hb);have NX9:=Lib.hid (NX7.out.below hb);have NA9:=Lib.hid (NA7.out.below hb);have NR9:=Lib.hid (NR7.out.below hb);have B9:=Lib.hid (bl_trans B7.out hb);have HOZ:=Lib.hid (ho.less (show lo ≤ w7.heap.size from Nat.le_of_lt (Nat.lt_of_le_of_lt N7.out.lg N7.out.blk.lt)));rw [← ez] at HOZ ⊢;clear ho hb ez)
      | ((with_reducible refine wpList_store_at 25 rfl (.tmp 67) (.tmp 66) rfl i1t g5 4 rfl (.slice (some ⟨gz,0,none⟩) b.ac.length b.ac.length) rfl rfl _ _ N9.out.blk ?_ ?_);(exact (by simp));intro w10 k5 g5x;have ss:=N9.out.newAc (A:=some ⟨gz,0,none⟩) (c:=b.ac.length) (ys:=List.replicate b.ac.length false) (RowB.of_own HOZ.out) HF.out (by rw [List.length_replicate];exact k5) g5x;have N10:=Lib.hid ss.1;have F10:=Lib.hid ss.2;clear ss k5 g5x;have NX10:=Lib.hid (NX9.out.span F10.out (.inl (by have:=GLO.out;omega)));have NA10:=Lib.hid (NA9.out.span F10.out (.inl (by have:=GLO.out;omega)));have NR10:=Lib.hid (NR9.out.span F10.out (.inl (by have:=GLO.out;omega)));have B10:=Lib.hid (bl_frm B9.out F10.out (by have:=GLO.out;omega))))
    obtain ⟨M2,eM⟩ : ∃ M2 : At5,M2 = { M with a5:=some ⟨gz,0,none⟩,c5:=b.ac.length }:=⟨_,rfl⟩
    have Nc:=Lib.hid (show NC w10 lo g5 M2 c by rw [eM,EC.out];exact N10.out)
    have E1a:=Lib.hid (show M2.a1 = some ⟨b1,o1,none⟩ by rw [eM];exact E1.out)
    have E2a:=Lib.hid (show M2.a2 = some ⟨b2,o2,none⟩ by rw [eM];exact E2.out)
    have E5a:=Lib.hid (show M2.a5 = some ⟨gz,0,none⟩ by rw [eM])
    clear N10 E1 E2 E5 eM
    have N10:=Nc
    have E1:=E1a
    have E2:=E2a
    have E5:=E5a
    clear Nc E1a E2a E5a
    clear cx cy y0 y1 y3 y7 p0 p1
    have HNc : Hid (Blk w10 g5 27 [.slice (some ⟨b1,o1,none⟩) c.st.length M2.c1,.slice (some ⟨b2,o2,none⟩) c.bt.length M2.c2,.slice M2.a3 c.pd.length M2.c3,.slice M2.a4 c.fo.length M2.c4,.slice M2.a5 c.ac.length M2.c5,.int .i64 c.tu,.int .i64 c.un,.int .i64 c.ra,.int .i64 c.li]):=Lib.hid (by have q:=N10.out.blk;unfold btL at q;rw [E1.out,E2.out] at q;exact q)
    have hc1:=(N10.out.rows.r1.cellE E1.out i LS.out.1).1
    have hc2:=(N10.out.rows.r2.cellE E2.out i LS.out.2.1).1
    rw [XC.out] at hc1
    rw [YC.out] at hc2
    have H1 : Hid (∀ W',Below w10.heap.size w10 W' → W'.cell? ⟨b1,o1 + i,none⟩ = some (.int .i64 X)):=Lib.hid (fun W' hI=>(hI.cell (p:=⟨b1,o1 + i,none⟩) (World.block_lt_of_cell? _ _ hc1)).trans hc1)
    have H2 : Hid (∀ W',Below w10.heap.size w10 W' → W'.cell? ⟨b2,o2 + i,none⟩ = some (.int .i64 Y)):=Lib.hid (fun W' hI=>(hI.cell (p:=⟨b2,o2 + i,none⟩) (World.block_lt_of_cell? _ _ hc2)).trans hc2)
    clear hc1 hc2
    have dc1:=LS.out.2.2.1
    have dc2:=LS.out.2.2.2
    have dc5:=LA.out.2
    refine wp_region_W (last:=17) (k:=17) hmx rfl (fun HD0=>?_)
    refine wpAnyR_takeL (i:=0) (kw:=3) (v:=.pointer (some ⟨g5,0,none⟩)) (fun _=>bl_refl _) (fun p q=>bl_trans p q) rfl rfl (by kernel_rfl) (by kernel_rfl) (by kernel_rfl) (by kernel_rfl) (fun _ _ _ h=>h) HD0 (Or.inl ⟨by kernel_rfl,fun W' hI=>?_⟩) (fun HD1=>?_)
    ·exact .inl (by go_simp)
    refine wpAnyR_takeL (i:=1) (kw:=2) (v:=.slice (some ⟨b1,o1,none⟩) c.st.length M2.c1) (fun _=>bl_refl _) (fun p q=>bl_trans p q) rfl rfl (by kernel_rfl) (by kernel_rfl) (by kernel_rfl) (by kernel_rfl) (fun _ _ _ h=>h) HD1 (Or.inl ⟨by kernel_rfl,fun W' hI=>?_⟩) (fun HD2=>?_)
    ·have hv:=(HNc.out).below hI
     obtain ⟨z0,_⟩:=hv.cell 0 _ rfl
     exact .inl (by go_simp)
    refine wpAnyR_takeL (i:=2) (kw:=2) (v:=.int .i64 i) (fun _=>bl_refl _) (fun p q=>bl_trans p q) rfl rfl (by kernel_rfl) (by kernel_rfl) (by kernel_rfl) (by kernel_rfl) (fun _ _ _ h=>h) HD2 (Or.inl ⟨by kernel_rfl,fun W' hI=>?_⟩) (fun HD3=>?_)
    ·exact .inl (by go_simp)
    refine wpAnyR_takeL (i:=3) (kw:=5) (v:=.pointer (some ⟨g5,0,none⟩)) (fun _=>bl_refl _) (fun p q=>bl_trans p q) rfl rfl (by kernel_rfl) (by kernel_rfl) (by kernel_rfl) (by kernel_rfl) (fun _ _ _ h=>h) HD3 (Or.inl ⟨by kernel_rfl,fun W' hI=>?_⟩) (fun HD4=>?_)
    ·exact .inl (by go_simp)
    refine wpAnyR_takeL (i:=4) (kw:=4) (v:=.slice (some ⟨b1,o1,none⟩) c.st.length M2.c1) (fun _=>bl_refl _) (fun p q=>bl_trans p q) rfl rfl (by kernel_rfl) (by kernel_rfl) (by kernel_rfl) (by kernel_rfl) (fun _ _ _ h=>h) HD4 (Or.inl ⟨by kernel_rfl,fun W' hI=>?_⟩) (fun HD5=>?_)
    ·have hv:=(HNc.out).below hI
     obtain ⟨z0,_⟩:=hv.cell 0 _ rfl
     exact .inl (by go_simp)
    refine wpAnyR_takeL (i:=5) (kw:=4) (v:=.int .i64 i) (fun _=>bl_refl _) (fun p q=>bl_trans p q) rfl rfl (by kernel_rfl) (by kernel_rfl) (by kernel_rfl) (by kernel_rfl) (fun _ _ _ h=>h) HD5 (Or.inl ⟨by kernel_rfl,fun W' hI=>?_⟩) (fun HD6=>?_)
    ·exact .inl (by go_simp)
    refine wpAnyR_takeL (i:=6) (kw:=3) (v:=.pointer (some ⟨b1,o1 + i,none⟩)) (fun _=>bl_refl _) (fun p q=>bl_trans p q) rfl rfl (by kernel_rfl) (by kernel_rfl) (by kernel_rfl) (by kernel_rfl) (fun _ _ _ h=>h) HD6 (Or.inl ⟨by kernel_rfl,fun W' hI=>?_⟩) (fun HD7=>?_)
    ·exact .inl (by go_simp)
    refine wpAnyR_takeL (i:=7) (kw:=2) (v:=.int .i64 X) (fun _=>bl_refl _) (fun p q=>bl_trans p q) rfl rfl (by kernel_rfl) (by kernel_rfl) (by kernel_rfl) (by kernel_rfl) (fun _ _ _ h=>h) HD7 (Or.inl ⟨by kernel_rfl,fun W' hI=>?_⟩) (fun HD8=>?_)
    ·have hx:=H1.out W' hI
     exact .inl (by go_simp)
    refine wpAnyR_takeL (i:=8) (kw:=3) (v:=.int .i64 z) (fun _=>bl_refl _) (fun p q=>bl_trans p q) rfl rfl (by kernel_rfl) (by kernel_rfl) (by kernel_rfl) (by kernel_rfl) (fun _ _ _ h=>h) HD8 (Or.inl ⟨by kernel_rfl,fun W' hI=>?_⟩) (fun HD9=>?_)
    ·exact .inl (by go_simp)
    refine wpAnyR_takeL (i:=9) (kw:=6) (v:=.pointer (some ⟨g5,1,none⟩)) (fun _=>bl_refl _) (fun p q=>bl_trans p q) rfl rfl (by kernel_rfl) (by kernel_rfl) (by kernel_rfl) (by kernel_rfl) (fun _ _ _ h=>h) HD9 (Or.inl ⟨by kernel_rfl,fun W' hI=>?_⟩) (fun HD10=>?_)
    ·exact .inl (by go_simp)
    refine wpAnyR_takeL (i:=10) (kw:=5) (v:=.slice (some ⟨b2,o2,none⟩) c.bt.length M2.c2) (fun _=>bl_refl _) (fun p q=>bl_trans p q) rfl rfl (by kernel_rfl) (by kernel_rfl) (by kernel_rfl) (by kernel_rfl) (fun _ _ _ h=>h) HD10 (Or.inl ⟨by kernel_rfl,fun W' hI=>?_⟩) (fun HD11=>?_)
    ·have hv:=(HNc.out).below hI
     obtain ⟨z1,_⟩:=hv.cell 1 _ rfl
     exact .inl (by go_simp)
    refine wpAnyR_takeL (i:=11) (kw:=5) (v:=.int .i64 i) (fun _=>bl_refl _) (fun p q=>bl_trans p q) rfl rfl (by kernel_rfl) (by kernel_rfl) (by kernel_rfl) (by kernel_rfl) (fun _ _ _ h=>h) HD11 (Or.inl ⟨by kernel_rfl,fun W' hI=>?_⟩) (fun HD12=>?_)
    ·exact .inl (by go_simp)
    refine wpAnyR_takeL (i:=12) (kw:=4) (v:=.pointer (some ⟨b2,o2 + i,none⟩)) (fun _=>bl_refl _) (fun p q=>bl_trans p q) rfl rfl (by kernel_rfl) (by kernel_rfl) (by kernel_rfl) (by kernel_rfl) (fun _ _ _ h=>h) HD12 (Or.inl ⟨by kernel_rfl,fun W' hI=>?_⟩) (fun HD13=>?_)
    ·exact .inl (by go_simp)
    refine wpAnyR_takeL (i:=13) (kw:=3) (v:=.int .i64 Y) (fun _=>bl_refl _) (fun p q=>bl_trans p q) rfl rfl (by kernel_rfl) (by kernel_rfl) (by kernel_rfl) (by kernel_rfl) (fun _ _ _ h=>h) HD13 (Or.inl ⟨by kernel_rfl,fun W' hI=>?_⟩) (fun HD14=>?_)
    ·have hx:=H2.out W' hI
     exact .inl (by go_simp)
    refine wpAnyR_takeL (i:=14) (kw:=2) (v:=.int .i64 (z - Y)) (fun _=>bl_refl _) (fun p q=>bl_trans p q) rfl rfl (by kernel_rfl) (by kernel_rfl) (by kernel_rfl) (by kernel_rfl) (fun _ _ _ h=>h) HD14 (Or.inl ⟨by kernel_rfl,fun W' hI=>?_⟩) (fun HD15=>?_)
    ·exact .inl (by go_simp;first | done | exact IntWalk.i64_in _ (by omega))
    refine wpAnyR_takeL (i:=15) (kw:=1) (v:=.int .i64 (X - (z - Y))) (fun _=>bl_refl _) (fun p q=>bl_trans p q) rfl rfl (by kernel_rfl) (by kernel_rfl) (by kernel_rfl) (by kernel_rfl) (fun _ _ _ h=>h) HD15 (Or.inl ⟨by kernel_rfl,fun W' hI=>?_⟩) (fun HD16=>?_)
    ·exact .inl (by go_simp;first | done | exact IntWalk.i64_in _ (by omega))
    refine wpAnyR_takeL (i:=16) (kw:=1) (v:=.pointer (some ⟨b1,o1 + i,none⟩)) (fun _=>bl_refl _) (fun p q=>bl_trans p q) rfl rfl (by kernel_rfl) (by kernel_rfl) (by kernel_rfl) (by kernel_rfl) (fun _ _ _ h=>h) HD16 (Or.inl ⟨by kernel_rfl,fun W' hI=>?_⟩) (fun HD17=>?_)
    ·exact .inl (by go_simp)
    refine wpAnyR_lastL (by kernel_rfl) (by kernel_rfl) rfl (by kernel_rfl) (fun wS hrR=>⟨bl_drewT hrR,?_⟩)
    intro K hK
    have BR:=Lib.hid (bl_drewT hrR)
    clear hrR
    have Nt0:=Lib.hid (N10.out.below BR.out)
    have NRt0:=Lib.hid (NR10.out.below BR.out)
    have Bt0:=Lib.hid (bl_trans B10.out BR.out)
    have c4:=(Nt0.out.rows.r1.cellE E1.out i LS.out.1).1
    have f4:=(Nt0.out.rows.r1.cellE E1.out i LS.out.1).2
    go_simp
    refine hK _ _ ?_
    clear hK K
    have ss:=Nt0.out.setSt E1.out i LS.out.1 (X - (z - Y))
    clear c4 f4
    generalize wS.setCell ⟨b1,o1 + i,none⟩ (.int .i64 (X - (z - Y))) = w7 at *
    have Nt1:=Lib.hid ss.1
    have NRt1:=Lib.hid (NRt0.out.span ss.2 (.inl (by have:=GLO.out;omega)))
    have Bt1:=Lib.hid (bl_frm Bt0.out ss.2 (by have:=GLO.out;omega))
    have BX1:=ss.1.blk
    unfold btL at BX1
    simp only at BX1
    rw [E2.out] at BX1
    obtain ⟨y1,-⟩:=BX1.cell 1 _ rfl
    clear ss BX1 HNc H1 H2 Nt0 NRt0 Bt0 BR N10 NX10 NA10 NR10 B10
    go_wp2_with (first
      | ((with_reducible refine at_st 2 (.tmp 89) (.tmp 88) rfl ?_);(refine wpList_store_el 2 rfl (.tmp 89) (.tmp 88) rfl (by kernel_rfl) ⟨b2,o2 + i,none⟩ rfl (.int .i64 z) rfl rfl _ (Nt1.out.rows.r2.cellE E2.out i LS.out.2.1).1 (Nt1.out.rows.r2.cellE E2.out i LS.out.2.1).2 ?_);have ss:=Nt1.out.setBt E2.out i LS.out.2.1 z;obtain ⟨wt2,ew⟩ : ∃ W : World,W = w7.setCell ⟨b2,o2 + i,none⟩ (.int .i64 z):=⟨_,rfl⟩;rw [← ew] at ss ⊢;clear ew;have Nt2:=Lib.hid ss.1;have Ft2:=Lib.hid ss.2;clear ss;have NRt2:=Lib.hid (NRt1.out.span Ft2.out (.inl (by have:=GLO.out;omega)));have Bt2:=Lib.hid (bl_frm Bt1.out Ft2.out (by have:=GLO.out;omega));have BX2:=Nt2.out.blk;unfold btL at BX2;simp only at BX2;rw [E5.out] at BX2;obtain ⟨u4,-⟩:=BX2.cell 4 _ rfl;clear BX2)
      | ((with_reducible refine at_st 4 (.tmp 93) (.const (.bool true)) rfl ?_);(refine wpList_store_el 4 rfl (.tmp 93) (.const (.bool true)) rfl (by kernel_rfl) ⟨gz,i,none⟩ rfl (.bool true) rfl rfl _ (Nt2.out.rows.r5.cellE0 E5.out i LA.out.1).1 (Nt2.out.rows.r5.cellE0 E5.out i LA.out.1).2 ?_);have ss:=Nt2.out.setAc0 E5.out i LA.out.1 true;obtain ⟨wt3,ew⟩ : ∃ W : World,W = wt2.setCell ⟨gz,i,none⟩ (.bool true):=⟨_,rfl⟩;rw [← ew] at ss ⊢;clear ew;have Nt3:=Lib.hid ss.1;have Ft3:=Lib.hid ss.2;clear ss;have NRt3:=Lib.hid (NRt2.out.span Ft3.out (.inl (by have:=GLO.out;omega)));have Bt3:=Lib.hid (bl_frm Bt2.out Ft3.out (by have:=GLO.out;omega));obtain ⟨d,ed⟩ : ∃ d : Bt,d = { c with st:=c.st.set i (X - (z - Y)),bt:=c.bt.set i z,ac:=c.ac.set i true }:=⟨_,rfl⟩;have Nd:=Lib.hid (show NC wt3 lo g5 M2 d from ed ▸ Nt3.out);have hd:=HD.out d ed;have KN:=Lib.hid (fun (W : World) (hW : Rd5 W M2 d)=>l10Next_any M2 d i W hW hd.1 (by omega) (by omega));have HAP:=Lib.hid hd.2;clear hd Nt3 ed;unfold bV at KN;have BX3:=Nd.out.blk;unfold btL at BX3;obtain ⟨v0,-⟩:=BX3.cell 0 _ rfl;obtain ⟨v1,-⟩:=BX3.cell 1 _ rfl;obtain ⟨v2,-⟩:=BX3.cell 2 _ rfl;obtain ⟨v3,-⟩:=BX3.cell 3 _ rfl;obtain ⟨v4,-⟩:=BX3.cell 4 _ rfl;obtain ⟨v5,-⟩:=BX3.cell 5 _ rfl;obtain ⟨v6,-⟩:=BX3.cell 6 _ rfl;obtain ⟨v7,-⟩:=BX3.cell 7 _ rfl;obtain ⟨v8,-⟩:=BX3.cell 8 _ rfl;clear BX3)
      | (go_at_call 152;refine (KN.out _ Nd.out.rows.rd).mono ?_;rintro e wt4 ⟨rfl,hb⟩;have Nt4:=Lib.hid (Nd.out.below hb);have NRt4:=Lib.hid (NRt3.out.below hb);have Bt4:=Lib.hid (bl_trans Bt3.out hb);clear hb)
      | ((with_reducible refine wpList_store_at 2 rfl (.tmp 97) (.tmp 96) rfl i1 g5 5 rfl (.int .i64 (nxtG d i)) rfl rfl _ _ Nt4.out.blk ?_ ?_);(exact (by simp));intro wt5 k5 g5x;have ss:=Nt4.out.setTu (nxtG d i) k5 g5x;have Nt5:=Lib.hid ss.1;have Ft5:=Lib.hid ss.2;clear ss k5 g5x;have NRt5:=Lib.hid (NRt4.out.span Ft5.out (.inl (by have:=GLO.out;omega)));have Bt5:=Lib.hid (bl_frm Bt4.out Ft5.out (by have:=GLO.out;omega));have BX5:=Nt5.out.blk;unfold btL at BX5;simp only at BX5;obtain ⟨x0,-⟩:=BX5.cell 0 _ rfl;obtain ⟨x1,-⟩:=BX5.cell 1 _ rfl;obtain ⟨x2,-⟩:=BX5.cell 2 _ rfl;obtain ⟨x3,-⟩:=BX5.cell 3 _ rfl;obtain ⟨x4,-⟩:=BX5.cell 4 _ rfl;obtain ⟨x5,-⟩:=BX5.cell 5 _ rfl;obtain ⟨x6,-⟩:=BX5.cell 6 _ rfl;obtain ⟨x7,-⟩:=BX5.cell 7 _ rfl;obtain ⟨x8,-⟩:=BX5.cell 8 _ rfl;clear BX5)
      | ((with_reducible refine at_st 27 (.tmp 4) (.tmp 98) rfl ?_);(refine wpList_store_blk 27 9 rfl (.tmp 4) (.tmp 98) rfl iB (w.heap.size + 1 + 1) rfl [.slice M2.a1 d.st.length M2.c1,.slice M2.a2 d.bt.length M2.c2,.slice M2.a3 d.pd.length M2.c3,.slice M2.a4 d.fo.length M2.c4,.slice M2.a5 d.ac.length M2.c5,.int .i64 (nxtG d i),.int .i64 d.un,.int .i64 d.ra,.int .i64 d.li] rfl rfl (by simp [Value.oneCell']) _ NRt5.out rfl ?_);intro w12 k9 g9;have B12:=Lib.hid (below_grown1 Bt5.out g9 (by omega));have R12:=Lib.hid (Nt5.out.rows.grownB g9 (by have:=GLO.out;omega))))
    obtain ⟨z0,_⟩:=k9.cell 0 _ rfl
    obtain ⟨z1,_⟩:=k9.cell 1 _ rfl
    obtain ⟨z2,_⟩:=k9.cell 2 _ rfl
    obtain ⟨z3,_⟩:=k9.cell 3 _ rfl
    obtain ⟨z4,_⟩:=k9.cell 4 _ rfl
    obtain ⟨z5,_⟩:=k9.cell 5 _ rfl
    obtain ⟨z6,_⟩:=k9.cell 6 _ rfl
    obtain ⟨z7,_⟩:=k9.cell 7 _ rfl
    obtain ⟨z8,_⟩:=k9.cell 8 _ rfl
    exact bodyPost_ret (v:=.agg #[.slice M2.a1 d.st.length M2.c1,.slice M2.a2 d.bt.length M2.c2,.slice M2.a3 d.pd.length M2.c3,.slice M2.a4 d.fo.length M2.c4,.slice M2.a5 d.ac.length M2.c5,.int .i64 (nxtG d i),.int .i64 d.un,.int .i64 d.ra,.int .i64 d.li]) (by simp [results,Try.results90,go_sem,z0,z1,z2,z3,z4,z5,z6,z7,z8]) rfl ⟨M2,by rw [HAP.out];rfl,by rw [HAP.out];exact R12.out.less (by have:=GLO.out;omega),B12.out⟩
   ·obtain ⟨c,ec⟩ : ∃ c : Bt,c = { b with ra:=ra',un:=x - t,ac:=List.replicate b.ac.length false }:=⟨_,rfl⟩
    have LS : Hid (i < c.st.length ∧ i < c.bt.length ∧ (i : Int) < c.st.length ∧ (i : Int) < c.bt.length):=Lib.hid (by rw [ec];exact ⟨hil,hil2,d1,d2⟩)
    have XC : Hid (nth c.st i = X):=Lib.hid (by rw [ec];exact EX.out.symm)
    have YC : Hid (nth c.bt i = Y):=Lib.hid (by rw [ec];exact EY.out.symm)
    have LA : Hid (i < c.ac.length ∧ (i : Int) < c.ac.length):=Lib.hid (by rw [ec];show i < (List.replicate b.ac.length false).length ∧ _ < ((List.replicate b.ac.length false).length : Int);rw [List.length_replicate];exact ⟨hil5,d5⟩)
    obtain ⟨z,ez⟩ : ∃ z : Int,z = x:=⟨_,rfl⟩
    have HD : Hid (∀ d : Bt,d = { c with st:=c.st.set i (X - (z - Y)),bt:=c.bt.set i z,ac:=c.ac.set i true } → Sd d ∧ appB b 3 x = { d with tu:=nxtG d i }):=Lib.hid (fun d hd=>HAPB d (by
     rw [hd,ec,ez,hfb,decide_eq_true hf]
     rfl))
    subst ez
    have EC:=Lib.hid ec
    have bz : -10000000 ≤ z ∧ z ≤ 10000000:=by omega
    have c12 : decide (t + b.un ≤ z) = true:=decide_eq_true (by omega)
    have c13 : (b.li != (2 : Int)) = true:=by simpa using h2
    clear ec HAPB et ex ey hl hn l2 l4 l5 hm hx0 hx1 hfb hfix er h2
    have b1:=bl_box (w:=w) (L:=L) (b:=b)
    have b2:=bl_alloc (bl_refl (w.alloc (.cells (btL L b).toArray 27))) (.cells ([.int .i64 3,.int .i64 z] : List Value).toArray 34)
    have b3:=bl_alloc (bl_refl ((w.alloc (.cells (btL L b).toArray 27)).alloc (.cells ([.int .i64 3,.int .i64 z] : List Value).toArray 34))) (.cells ([.slice none 0 0,.slice none 0 0,.slice none 0 0,.slice none 0 0,.slice none 0 0,.int .i64 0,.int .i64 0,.int .i64 0,.int .i64 0] : List Value).toArray 27)
    have BT:=((btAt_new h).below b2).below b3
    have n1:=blk_new (w.alloc (.cells (btL L b).toArray 27)) 34 [.int .i64 3,.int .i64 z]
    rw [World.size_alloc] at n1
    have n2:=blk_new ((w.alloc (.cells (btL L b).toArray 27)).alloc (.cells ([.int .i64 3,.int .i64 z] : List Value).toArray 34)) 27 [.slice none 0 0,.slice none 0 0,.slice none 0 0,.slice none 0 0,.slice none 0 0,.int .i64 0,.int .i64 0,.int .i64 0,.int .i64 0]
    rw [World.size_alloc,World.size_alloc] at n2
    have B:=Lib.hid (bl_trans (bl_trans b1 b2) b3)
    have NA:=Lib.hid (n1.below b3)
    have NR:=Lib.hid n2
    have NX:=Lib.hid BT.blk
    have RX:=Lib.hid BT.rd
    have KO:=Lib.hid (l10OwnX_any L b _ BT.rd kk.sm)
    have BT1:=BT.blk
    obtain ⟨lo,elo⟩ : ∃ lo,lo = (((w.alloc (.cells (btL L b).toArray 27)).alloc (.cells ([.int .i64 3,.int .i64 z] : List Value).toArray 34)).alloc (.cells ([.slice none 0 0,.slice none 0 0,.slice none 0 0,.slice none 0 0,.slice none 0 0,.int .i64 0,.int .i64 0,.int .i64 0,.int .i64 0] : List Value).toArray 27)).heap.size:=⟨_,rfl⟩
    have hlo : w.heap.size + 1 + 1 < lo:=by rw [elo];simp only [World.size_alloc];omega
    obtain ⟨q0,-⟩:=BT1.cell 0 _ rfl
    obtain ⟨q1,-⟩:=BT1.cell 1 _ rfl
    obtain ⟨q2,-⟩:=BT1.cell 2 _ rfl
    obtain ⟨q3,-⟩:=BT1.cell 3 _ rfl
    obtain ⟨q4,-⟩:=BT1.cell 4 _ rfl
    obtain ⟨q5,-⟩:=BT1.cell 5 _ rfl
    obtain ⟨q6,-⟩:=BT1.cell 6 _ rfl
    obtain ⟨q7,-⟩:=BT1.cell 7 _ rfl
    obtain ⟨q8,-⟩:=BT1.cell 8 _ rfl
    clear BT1 n1 n2 b1 b2 b3
    clear hi
    unfold bV at *
    go_enter Try.func90,Try.ntmps90
    go_wp2_with ((go_at_call 112;refine KO.out.mono ?_;rintro e w4 ⟨M,rfl,hr,hb⟩;rw [← elo] at hr;have hb5:=bl_trans hb (bl_alloc (bl_refl w4) (.cells (btL M b).toArray 27));have N5:=Lib.hid (NC.new hr (by rw [elo];exact hb.size));have NX5:=Lib.hid (NX.out.below hb5);have RX5:=Lib.hid (RX.out.below hb5);have NA5:=Lib.hid (NA.out.below hb5);have NR5:=Lib.hid (NR.out.below hb5);have B5:=Lib.hid (bl_trans B.out hb5);clear hr hb hb5))
    have GLO:=Lib.hid (And.intro hlo (Nat.le_refl lo))
    obtain ⟨g5,eg⟩ : ∃ g,g = w4.heap.size:=⟨_,rfl⟩
    obtain ⟨w5,e5⟩ : ∃ W,W = w4.alloc (.cells (btL M b).toArray 27):=⟨_,rfl⟩
    rw [← e5,← eg] at N5
    rw [← e5] at NX5 RX5 NA5 NR5 B5
    simp only [btL,List.toArray] at e5
    rw [← eg,← e5]
    clear eg e5 elo hlo KO BT NA NR NX RX B
    have NX5i : Hid (Blk w5 w.heap.size 27 [.slice L.a1 b.st.length L.c1,.slice L.a2 b.bt.length L.c2,.slice L.a3 b.pd.length L.c3,.slice L.a4 b.fo.length L.c4,.slice L.a5 b.ac.length L.c5,.int .i64 i,.int .i64 b.un,.int .i64 b.ra,.int .i64 b.li]):=Lib.hid (by have q:=NX5.out;unfold btL at q;rw [HI.out] at q;exact q)
    have KMX : Hid (∀ W : World,Rd5 W L b → Calls Try.prog 137 #[.agg #[.slice L.a1 b.st.length L.c1,.slice L.a2 b.bt.length L.c2,.slice L.a3 b.pd.length L.c3,.slice L.a4 b.fo.length L.c4,.slice L.a5 b.ac.length L.c5,.int .i64 i,.int .i64 b.un,.int .i64 b.ra,.int .i64 b.li]] W (Fresh (.int .i64 t) W)):=Lib.hid (fun W hW=>by have q:=KM.out L W hW;unfold bV at q;rw [HI.out] at q;exact q)
    refine wp_region_W (last:=5) (k:=5) hmx rfl (fun HC0=>?_)
    refine wpAnyR_takeL (i:=0) (kw:=6) (v:=.pointer (some ⟨w.heap.size,5,none⟩)) (fun _=>bl_refl _) (fun p q=>bl_trans p q) rfl rfl (by kernel_rfl) (by kernel_rfl) (by kernel_rfl) (by kernel_rfl) (fun _ _ _ h=>h) HC0 (Or.inl ⟨by kernel_rfl,fun W' hI=>?_⟩) (fun HC1=>?_)
    ·exact .inl (by go_simp)
    refine wpAnyR_takeL (i:=1) (kw:=6) (v:=.int .i64 i) (fun _=>bl_refl _) (fun p q=>bl_trans p q) rfl rfl (by kernel_rfl) (by kernel_rfl) (by kernel_rfl) (by kernel_rfl) (fun _ _ _ h=>h) HC1 (Or.inl ⟨by kernel_rfl,fun W' hI=>?_⟩) (fun HC2=>?_)
    ·have hv:=(NX5i.out).below hI
     obtain ⟨z5,_⟩:=hv.cell 5 _ rfl
     exact .inl (by go_simp)
    refine wpAnyR_takeL (i:=2) (kw:=2) (v:=.agg #[.slice L.a1 b.st.length L.c1,.slice L.a2 b.bt.length L.c2,.slice L.a3 b.pd.length L.c3,.slice L.a4 b.fo.length L.c4,.slice L.a5 b.ac.length L.c5,.int .i64 i,.int .i64 b.un,.int .i64 b.ra,.int .i64 b.li]) (fun _=>bl_refl _) (fun p q=>bl_trans p q) rfl rfl (by kernel_rfl) (by kernel_rfl) (by kernel_rfl) (by kernel_rfl) (fun _ _ _ h=>h) HC2 (Or.inl ⟨by kernel_rfl,fun W' hI=>?_⟩) (fun HC3=>?_)
    ·have hv:=(NX5i.out).below hI
     obtain ⟨z0,_⟩:=hv.cell 0 _ rfl
     obtain ⟨z1,_⟩:=hv.cell 1 _ rfl
     obtain ⟨z2,_⟩:=hv.cell 2 _ rfl
     obtain ⟨z3,_⟩:=hv.cell 3 _ rfl
     obtain ⟨z4,_⟩:=hv.cell 4 _ rfl
     obtain ⟨z5,_⟩:=hv.cell 5 _ rfl
     obtain ⟨z6,_⟩:=hv.cell 6 _ rfl
     obtain ⟨z7,_⟩:=hv.cell 7 _ rfl
     obtain ⟨z8,_⟩:=hv.cell 8 _ rfl
     exact .inl (by go_simp)
    refine wpAnyR_takeL (i:=3) (kw:=1) (v:=.int .i64 t) (fun _=>bl_refl _) (fun p q=>bl_trans p q) rfl rfl (by kernel_rfl) (by kernel_rfl) (by kernel_rfl) (by kernel_rfl) (fun _ _ _ h=>h) HC3 (Or.inl ⟨by kernel_rfl,fun W' hI=>?_⟩) (fun HC4=>?_)
    ·exact .inr ⟨137,#[.agg #[.slice L.a1 b.st.length L.c1,.slice L.a2 b.bt.length L.c2,.slice L.a3 b.pd.length L.c3,.slice L.a4 b.fo.length L.c4,.slice L.a5 b.ac.length L.c5,.int .i64 i,.int .i64 b.un,.int .i64 b.ra,.int .i64 b.li]],by go_simp,KMX.out W' (RX5.out.below hI)⟩
    refine wpAnyR_takeL (i:=4) (kw:=6) (v:=.int .i64 i) (fun _=>bl_refl _) (fun p q=>bl_trans p q) rfl rfl (by kernel_rfl) (by kernel_rfl) (by kernel_rfl) (by kernel_rfl) (fun _ _ _ h=>h) HC4 (Or.inl ⟨by kernel_rfl,fun W' hI=>?_⟩) (fun HC5=>?_)
    ·exact .inl (by go_simp)
    refine wpAnyR_lastL (by kernel_rfl) (by kernel_rfl) rfl (by kernel_rfl) (fun wR hrR=>⟨bl_drewT hrR,?_⟩)
    intro K hK
    have BR:=Lib.hid (bl_drewT hrR)
    clear hrR
    go_simp
    refine hK _ _ ?_
    clear hK K
    have N6:=Lib.hid (N5.out.below BR.out)
    have NX6:=Lib.hid (NX5i.out.below BR.out)
    have NA6:=Lib.hid (NA5.out.below BR.out)
    have NR6:=Lib.hid (NR5.out.below BR.out)
    have B6:=Lib.hid (bl_trans B5.out BR.out)
    clear N5 NX5 NX5i RX5 NA5 NR5 B5 BR KMX
    obtain ⟨b1,o1,e1,-⟩:=N6.out.rows.r1.rd.at_0 i hil
    obtain ⟨b2,o2,e2,-⟩:=N6.out.rows.r2.rd.at_0 i hil2
    obtain ⟨b4,o4,e4,-⟩:=N6.out.rows.r4.rd.at_0 i hil4
    obtain ⟨b5,o5,e5,-⟩:=N6.out.rows.r5.rd.at_0 i hil5
    have E1:=Lib.hid e1
    have E2:=Lib.hid e2
    have E4:=Lib.hid e4
    have E5:=Lib.hid e5
    clear e1 e2 e4 e5
    have cx:=(N6.out.rows.r1.cellE E1.out i hil).1
    have cy:=(N6.out.rows.r2.cellE E2.out i hil2).1
    rw [← EX.out] at cx
    rw [← EY.out] at cy
    have BX6:=N6.out.blk
    unfold btL at BX6
    rw [E1.out,E2.out,E4.out,E5.out] at BX6
    obtain ⟨y0,-⟩:=BX6.cell 0 _ rfl
    obtain ⟨y1,-⟩:=BX6.cell 1 _ rfl
    obtain ⟨y3,-⟩:=BX6.cell 3 _ rfl
    obtain ⟨y7,-⟩:=BX6.cell 7 _ rfl
    obtain ⟨p0,-⟩:=NA6.out.cell 0 _ rfl
    obtain ⟨p1,-⟩:=NA6.out.cell 1 _ rfl
    clear BX6
    have u4x:=NX6.out
    obtain ⟨u6,-⟩:=u4x.cell 6 _ rfl
    clear u4x
    go_wp2_with (first
      | ((with_reducible refine wpList_store_at 2 rfl (.tmp 49) (.tmp 48) rfl i1 g5 7 rfl (.int .i64 ra') rfl rfl _ _ N6.out.blk ?_ ?_);(exact (by simp));intro w7 k5 g5x;have ss:=N6.out.setRa ra' k5 g5x;have N7:=Lib.hid ss.1;have F7:=Lib.hid ss.2;clear ss k5 g5x;have NX7:=Lib.hid (NX6.out.span F7.out (.inl (by have:=GLO.out;omega)));have NA7:=Lib.hid (NA6.out.span F7.out (.inl (by have:=GLO.out;omega)));have NR7:=Lib.hid (NR6.out.span F7.out (.inl (by have:=GLO.out;omega)));have B7:=Lib.hid (bl_frm B6.out F7.out (by have:=GLO.out;omega));obtain ⟨v4,-⟩:=NX7.out.cell 4 _ rfl;obtain ⟨v6,-⟩:=NX7.out.cell 6 _ rfl;obtain ⟨v8,-⟩:=NX7.out.cell 8 _ rfl)
      | ((with_reducible refine wpList_store_at 2 rfl (.tmp 62) (.tmp 61) rfl i1 g5 6 rfl (.int .i64 (z - t)) rfl rfl _ _ N7.out.blk ?_ ?_);(exact (by simp));intro w8 k5 g5x;have ss:=N7.out.setUn (z - t) k5 g5x;have N8:=Lib.hid ss.1;have F8:=Lib.hid ss.2;clear ss k5 g5x;have NX8:=Lib.hid (NX7.out.span F8.out (.inl (by have:=GLO.out;omega)));have NA8:=Lib.hid (NA7.out.span F8.out (.inl (by have:=GLO.out;omega)));have NR8:=Lib.hid (NR7.out.span F8.out (.inl (by have:=GLO.out;omega)));have B8:=Lib.hid (bl_frm B7.out F8.out (by have:=GLO.out;omega));obtain ⟨t4,-⟩:=NX8.out.cell 4 _ rfl)
      | (at_make;(refine wpList_makeB rfl (.tmp 65) (.tmp 65) rfl b.ac.length rfl rfl (by omega) ?_);intro w9 ho hb;obtain ⟨gz,ez⟩ : ∃ g,g = w8.heap.size:=⟨_,rfl⟩;have HF:=Lib.hid (show ∀ a,some (⟨gz,0,none⟩ : Addr) = some a → a.block ≠ g5 ∧ (∀ x,M.a1 = some x → x.block ≠ a.block) ∧ (∀ x,M.a2 = some x → x.block ≠ a.block) ∧ (∀ x,M.a3 = some x → x.block ≠ a.block) ∧ (∀ x,M.a4 = some x → x.block ≠ a.block) from fun a e=>(by obtain rfl:=Option.some.inj e;have q:=N8.out.blk.lt;rw [ez];exact ⟨Nat.ne_of_gt q,fun x ex=>Nat.ne_of_lt (N8.out.rows.r1.1 x ex).2,fun x ex=>Nat.ne_of_lt (N8.out.rows.r2.1 x ex).2,fun x ex=>Nat.ne_of_lt (N8.out.rows.r3.1 x ex).2,fun x ex=>Nat.ne_of_lt (N8.out.rows.r4.1 x ex).2⟩));have N9:=Lib.hid (N8.out.below hb);have NX9:=Lib.hid (NX8.out.below hb);have NA9:=Lib.hid (NA8.out.below hb);have NR9:=Lib.hid (NR8.out.below hb);have B9:=Lib.hid (bl_trans B8.out hb);have HOZ:=Lib.hid (ho.less (show lo ≤ w8.heap.size from Nat.le_of_lt (Nat.lt_of_le_of_lt N8.out.lg N8.out.blk.lt)));rw [← ez] at HOZ ⊢;clear ho hb ez)
      | ((with_reducible refine wpList_store_at 25 rfl (.tmp 67) (.tmp 66) rfl i1t g5 4 rfl (.slice (some ⟨gz,0,none⟩) b.ac.length b.ac.length) rfl rfl _ _ N9.out.blk ?_ ?_);(exact (by simp));intro w10 k5 g5x;have ss:=N9.out.newAc (A:=some ⟨gz,0,none⟩) (c:=b.ac.length) (ys:=List.replicate b.ac.length false) (RowB.of_own HOZ.out) HF.out (by rw [List.length_replicate];exact k5) g5x;have N10:=Lib.hid ss.1;have F10:=Lib.hid ss.2;clear ss k5 g5x;have NX10:=Lib.hid (NX9.out.span F10.out (.inl (by have:=GLO.out;omega)));have NA10:=Lib.hid (NA9.out.span F10.out (.inl (by have:=GLO.out;omega)));have NR10:=Lib.hid (NR9.out.span F10.out (.inl (by have:=GLO.out;omega)));have B10:=Lib.hid (bl_frm B9.out F10.out (by have:=GLO.out;omega))))
    obtain ⟨M2,eM⟩ : ∃ M2 : At5,M2 = { M with a5:=some ⟨gz,0,none⟩,c5:=b.ac.length }:=⟨_,rfl⟩
    have Nc:=Lib.hid (show NC w10 lo g5 M2 c by rw [eM,EC.out];exact N10.out)
    have E1a:=Lib.hid (show M2.a1 = some ⟨b1,o1,none⟩ by rw [eM];exact E1.out)
    have E2a:=Lib.hid (show M2.a2 = some ⟨b2,o2,none⟩ by rw [eM];exact E2.out)
    have E5a:=Lib.hid (show M2.a5 = some ⟨gz,0,none⟩ by rw [eM])
    clear N10 E1 E2 E5 eM
    have N10:=Nc
    have E1:=E1a
    have E2:=E2a
    have E5:=E5a
    clear Nc E1a E2a E5a
    clear cx cy y0 y1 y3 y7 p0 p1
    have HNc : Hid (Blk w10 g5 27 [.slice (some ⟨b1,o1,none⟩) c.st.length M2.c1,.slice (some ⟨b2,o2,none⟩) c.bt.length M2.c2,.slice M2.a3 c.pd.length M2.c3,.slice M2.a4 c.fo.length M2.c4,.slice M2.a5 c.ac.length M2.c5,.int .i64 c.tu,.int .i64 c.un,.int .i64 c.ra,.int .i64 c.li]):=Lib.hid (by have q:=N10.out.blk;unfold btL at q;rw [E1.out,E2.out] at q;exact q)
    have hc1:=(N10.out.rows.r1.cellE E1.out i LS.out.1).1
    have hc2:=(N10.out.rows.r2.cellE E2.out i LS.out.2.1).1
    rw [XC.out] at hc1
    rw [YC.out] at hc2
    have H1 : Hid (∀ W',Below w10.heap.size w10 W' → W'.cell? ⟨b1,o1 + i,none⟩ = some (.int .i64 X)):=Lib.hid (fun W' hI=>(hI.cell (p:=⟨b1,o1 + i,none⟩) (World.block_lt_of_cell? _ _ hc1)).trans hc1)
    have H2 : Hid (∀ W',Below w10.heap.size w10 W' → W'.cell? ⟨b2,o2 + i,none⟩ = some (.int .i64 Y)):=Lib.hid (fun W' hI=>(hI.cell (p:=⟨b2,o2 + i,none⟩) (World.block_lt_of_cell? _ _ hc2)).trans hc2)
    clear hc1 hc2
    have dc1:=LS.out.2.2.1
    have dc2:=LS.out.2.2.2
    have dc5:=LA.out.2
    refine wp_region_W (last:=17) (k:=17) hmx rfl (fun HD0=>?_)
    refine wpAnyR_takeL (i:=0) (kw:=3) (v:=.pointer (some ⟨g5,0,none⟩)) (fun _=>bl_refl _) (fun p q=>bl_trans p q) rfl rfl (by kernel_rfl) (by kernel_rfl) (by kernel_rfl) (by kernel_rfl) (fun _ _ _ h=>h) HD0 (Or.inl ⟨by kernel_rfl,fun W' hI=>?_⟩) (fun HD1=>?_)
    ·exact .inl (by go_simp)
    refine wpAnyR_takeL (i:=1) (kw:=2) (v:=.slice (some ⟨b1,o1,none⟩) c.st.length M2.c1) (fun _=>bl_refl _) (fun p q=>bl_trans p q) rfl rfl (by kernel_rfl) (by kernel_rfl) (by kernel_rfl) (by kernel_rfl) (fun _ _ _ h=>h) HD1 (Or.inl ⟨by kernel_rfl,fun W' hI=>?_⟩) (fun HD2=>?_)
    ·have hv:=(HNc.out).below hI
     obtain ⟨z0,_⟩:=hv.cell 0 _ rfl
     exact .inl (by go_simp)
    refine wpAnyR_takeL (i:=2) (kw:=2) (v:=.int .i64 i) (fun _=>bl_refl _) (fun p q=>bl_trans p q) rfl rfl (by kernel_rfl) (by kernel_rfl) (by kernel_rfl) (by kernel_rfl) (fun _ _ _ h=>h) HD2 (Or.inl ⟨by kernel_rfl,fun W' hI=>?_⟩) (fun HD3=>?_)
    ·exact .inl (by go_simp)
    refine wpAnyR_takeL (i:=3) (kw:=5) (v:=.pointer (some ⟨g5,0,none⟩)) (fun _=>bl_refl _) (fun p q=>bl_trans p q) rfl rfl (by kernel_rfl) (by kernel_rfl) (by kernel_rfl) (by kernel_rfl) (fun _ _ _ h=>h) HD3 (Or.inl ⟨by kernel_rfl,fun W' hI=>?_⟩) (fun HD4=>?_)
    ·exact .inl (by go_simp)
    refine wpAnyR_takeL (i:=4) (kw:=4) (v:=.slice (some ⟨b1,o1,none⟩) c.st.length M2.c1) (fun _=>bl_refl _) (fun p q=>bl_trans p q) rfl rfl (by kernel_rfl) (by kernel_rfl) (by kernel_rfl) (by kernel_rfl) (fun _ _ _ h=>h) HD4 (Or.inl ⟨by kernel_rfl,fun W' hI=>?_⟩) (fun HD5=>?_)
    ·have hv:=(HNc.out).below hI
     obtain ⟨z0,_⟩:=hv.cell 0 _ rfl
     exact .inl (by go_simp)
    refine wpAnyR_takeL (i:=5) (kw:=4) (v:=.int .i64 i) (fun _=>bl_refl _) (fun p q=>bl_trans p q) rfl rfl (by kernel_rfl) (by kernel_rfl) (by kernel_rfl) (by kernel_rfl) (fun _ _ _ h=>h) HD5 (Or.inl ⟨by kernel_rfl,fun W' hI=>?_⟩) (fun HD6=>?_)
    ·exact .inl (by go_simp)
    refine wpAnyR_takeL (i:=6) (kw:=3) (v:=.pointer (some ⟨b1,o1 + i,none⟩)) (fun _=>bl_refl _) (fun p q=>bl_trans p q) rfl rfl (by kernel_rfl) (by kernel_rfl) (by kernel_rfl) (by kernel_rfl) (fun _ _ _ h=>h) HD6 (Or.inl ⟨by kernel_rfl,fun W' hI=>?_⟩) (fun HD7=>?_)
    ·exact .inl (by go_simp)
    refine wpAnyR_takeL (i:=7) (kw:=2) (v:=.int .i64 X) (fun _=>bl_refl _) (fun p q=>bl_trans p q) rfl rfl (by kernel_rfl) (by kernel_rfl) (by kernel_rfl) (by kernel_rfl) (fun _ _ _ h=>h) HD7 (Or.inl ⟨by kernel_rfl,fun W' hI=>?_⟩) (fun HD8=>?_)
    ·have hx:=H1.out W' hI
     exact .inl (by go_simp)
    refine wpAnyR_takeL (i:=8) (kw:=3) (v:=.int .i64 z) (fun _=>bl_refl _) (fun p q=>bl_trans p q) rfl rfl (by kernel_rfl) (by kernel_rfl) (by kernel_rfl) (by kernel_rfl) (fun _ _ _ h=>h) HD8 (Or.inl ⟨by kernel_rfl,fun W' hI=>?_⟩) (fun HD9=>?_)
    ·exact .inl (by go_simp)
    refine wpAnyR_takeL (i:=9) (kw:=6) (v:=.pointer (some ⟨g5,1,none⟩)) (fun _=>bl_refl _) (fun p q=>bl_trans p q) rfl rfl (by kernel_rfl) (by kernel_rfl) (by kernel_rfl) (by kernel_rfl) (fun _ _ _ h=>h) HD9 (Or.inl ⟨by kernel_rfl,fun W' hI=>?_⟩) (fun HD10=>?_)
    ·exact .inl (by go_simp)
    refine wpAnyR_takeL (i:=10) (kw:=5) (v:=.slice (some ⟨b2,o2,none⟩) c.bt.length M2.c2) (fun _=>bl_refl _) (fun p q=>bl_trans p q) rfl rfl (by kernel_rfl) (by kernel_rfl) (by kernel_rfl) (by kernel_rfl) (fun _ _ _ h=>h) HD10 (Or.inl ⟨by kernel_rfl,fun W' hI=>?_⟩) (fun HD11=>?_)
    ·have hv:=(HNc.out).below hI
     obtain ⟨z1,_⟩:=hv.cell 1 _ rfl
     exact .inl (by go_simp)
    refine wpAnyR_takeL (i:=11) (kw:=5) (v:=.int .i64 i) (fun _=>bl_refl _) (fun p q=>bl_trans p q) rfl rfl (by kernel_rfl) (by kernel_rfl) (by kernel_rfl) (by kernel_rfl) (fun _ _ _ h=>h) HD11 (Or.inl ⟨by kernel_rfl,fun W' hI=>?_⟩) (fun HD12=>?_)
    ·exact .inl (by go_simp)
    refine wpAnyR_takeL (i:=12) (kw:=4) (v:=.pointer (some ⟨b2,o2 + i,none⟩)) (fun _=>bl_refl _) (fun p q=>bl_trans p q) rfl rfl (by kernel_rfl) (by kernel_rfl) (by kernel_rfl) (by kernel_rfl) (fun _ _ _ h=>h) HD12 (Or.inl ⟨by kernel_rfl,fun W' hI=>?_⟩) (fun HD13=>?_)
    ·exact .inl (by go_simp)
    refine wpAnyR_takeL (i:=13) (kw:=3) (v:=.int .i64 Y) (fun _=>bl_refl _) (fun p q=>bl_trans p q) rfl rfl (by kernel_rfl) (by kernel_rfl) (by kernel_rfl) (by kernel_rfl) (fun _ _ _ h=>h) HD13 (Or.inl ⟨by kernel_rfl,fun W' hI=>?_⟩) (fun HD14=>?_)
    ·have hx:=H2.out W' hI
     exact .inl (by go_simp)
    refine wpAnyR_takeL (i:=14) (kw:=2) (v:=.int .i64 (z - Y)) (fun _=>bl_refl _) (fun p q=>bl_trans p q) rfl rfl (by kernel_rfl) (by kernel_rfl) (by kernel_rfl) (by kernel_rfl) (fun _ _ _ h=>h) HD14 (Or.inl ⟨by kernel_rfl,fun W' hI=>?_⟩) (fun HD15=>?_)
    ·exact .inl (by go_simp;first | done | exact IntWalk.i64_in _ (by omega))
    refine wpAnyR_takeL (i:=15) (kw:=1) (v:=.int .i64 (X - (z - Y))) (fun _=>bl_refl _) (fun p q=>bl_trans p q) rfl rfl (by kernel_rfl) (by kernel_rfl) (by kernel_rfl) (by kernel_rfl) (fun _ _ _ h=>h) HD15 (Or.inl ⟨by kernel_rfl,fun W' hI=>?_⟩) (fun HD16=>?_)
    ·exact .inl (by go_simp;first | done | exact IntWalk.i64_in _ (by omega))
    refine wpAnyR_takeL (i:=16) (kw:=1) (v:=.pointer (some ⟨b1,o1 + i,none⟩)) (fun _=>bl_refl _) (fun p q=>bl_trans p q) rfl rfl (by kernel_rfl) (by kernel_rfl) (by kernel_rfl) (by kernel_rfl) (fun _ _ _ h=>h) HD16 (Or.inl ⟨by kernel_rfl,fun W' hI=>?_⟩) (fun HD17=>?_)
    ·exact .inl (by go_simp)
    refine wpAnyR_lastL (by kernel_rfl) (by kernel_rfl) rfl (by kernel_rfl) (fun wS hrR=>⟨bl_drewT hrR,?_⟩)
    intro K hK
    have BR:=Lib.hid (bl_drewT hrR)
    clear hrR
    have Nt0:=Lib.hid (N10.out.below BR.out)
    have NRt0:=Lib.hid (NR10.out.below BR.out)
    have Bt0:=Lib.hid (bl_trans B10.out BR.out)
    have c4:=(Nt0.out.rows.r1.cellE E1.out i LS.out.1).1
    have f4:=(Nt0.out.rows.r1.cellE E1.out i LS.out.1).2
    go_simp
    refine hK _ _ ?_
    clear hK K
    have ss:=Nt0.out.setSt E1.out i LS.out.1 (X - (z - Y))
    clear c4 f4
    generalize wS.setCell ⟨b1,o1 + i,none⟩ (.int .i64 (X - (z - Y))) = w7 at *
    have Nt1:=Lib.hid ss.1
    have NRt1:=Lib.hid (NRt0.out.span ss.2 (.inl (by have:=GLO.out;omega)))
    have Bt1:=Lib.hid (bl_frm Bt0.out ss.2 (by have:=GLO.out;omega))
    have BX1:=ss.1.blk
    unfold btL at BX1
    simp only at BX1
    rw [E2.out] at BX1
    obtain ⟨y1,-⟩:=BX1.cell 1 _ rfl
    clear ss BX1 HNc H1 H2 Nt0 NRt0 Bt0 BR N10 NX10 NA10 NR10 B10
    go_wp2_with (first
      | ((with_reducible refine at_st 2 (.tmp 89) (.tmp 88) rfl ?_);(refine wpList_store_el 2 rfl (.tmp 89) (.tmp 88) rfl (by kernel_rfl) ⟨b2,o2 + i,none⟩ rfl (.int .i64 z) rfl rfl _ (Nt1.out.rows.r2.cellE E2.out i LS.out.2.1).1 (Nt1.out.rows.r2.cellE E2.out i LS.out.2.1).2 ?_);have ss:=Nt1.out.setBt E2.out i LS.out.2.1 z;obtain ⟨wt2,ew⟩ : ∃ W : World,W = w7.setCell ⟨b2,o2 + i,none⟩ (.int .i64 z):=⟨_,rfl⟩;rw [← ew] at ss ⊢;clear ew;have Nt2:=Lib.hid ss.1;have Ft2:=Lib.hid ss.2;clear ss;have NRt2:=Lib.hid (NRt1.out.span Ft2.out (.inl (by have:=GLO.out;omega)));have Bt2:=Lib.hid (bl_frm Bt1.out Ft2.out (by have:=GLO.out;omega));have BX2:=Nt2.out.blk;unfold btL at BX2;simp only at BX2;rw [E5.out] at BX2;obtain ⟨u4,-⟩:=BX2.cell 4 _ rfl;clear BX2)
      | ((with_reducible refine at_st 4 (.tmp 93) (.const (.bool true)) rfl ?_);(refine wpList_store_el 4 rfl (.tmp 93) (.const (.bool true)) rfl (by kernel_rfl) ⟨gz,i,none⟩ rfl (.bool true) rfl rfl _ (Nt2.out.rows.r5.cellE0 E5.out i LA.out.1).1 (Nt2.out.rows.r5.cellE0 E5.out i LA.out.1).2 ?_);have ss:=Nt2.out.setAc0 E5.out i LA.out.1 true;obtain ⟨wt3,ew⟩ : ∃ W : World,W = wt2.setCell ⟨gz,i,none⟩ (.bool true):=⟨_,rfl⟩;rw [← ew] at ss ⊢;clear ew;have Nt3:=Lib.hid ss.1;have Ft3:=Lib.hid ss.2;clear ss;have NRt3:=Lib.hid (NRt2.out.span Ft3.out (.inl (by have:=GLO.out;omega)));have Bt3:=Lib.hid (bl_frm Bt2.out Ft3.out (by have:=GLO.out;omega));obtain ⟨d,ed⟩ : ∃ d : Bt,d = { c with st:=c.st.set i (X - (z - Y)),bt:=c.bt.set i z,ac:=c.ac.set i true }:=⟨_,rfl⟩;have Nd:=Lib.hid (show NC wt3 lo g5 M2 d from ed ▸ Nt3.out);have hd:=HD.out d ed;have KN:=Lib.hid (fun (W : World) (hW : Rd5 W M2 d)=>l10Next_any M2 d i W hW hd.1 (by omega) (by omega));have HAP:=Lib.hid hd.2;clear hd Nt3 ed;unfold bV at KN;have BX3:=Nd.out.blk;unfold btL at BX3;obtain ⟨v0,-⟩:=BX3.cell 0 _ rfl;obtain ⟨v1,-⟩:=BX3.cell 1 _ rfl;obtain ⟨v2,-⟩:=BX3.cell 2 _ rfl;obtain ⟨v3,-⟩:=BX3.cell 3 _ rfl;obtain ⟨v4,-⟩:=BX3.cell 4 _ rfl;obtain ⟨v5,-⟩:=BX3.cell 5 _ rfl;obtain ⟨v6,-⟩:=BX3.cell 6 _ rfl;obtain ⟨v7,-⟩:=BX3.cell 7 _ rfl;obtain ⟨v8,-⟩:=BX3.cell 8 _ rfl;clear BX3)
      | (go_at_call 152;refine (KN.out _ Nd.out.rows.rd).mono ?_;rintro e wt4 ⟨rfl,hb⟩;have Nt4:=Lib.hid (Nd.out.below hb);have NRt4:=Lib.hid (NRt3.out.below hb);have Bt4:=Lib.hid (bl_trans Bt3.out hb);clear hb)
      | ((with_reducible refine wpList_store_at 2 rfl (.tmp 97) (.tmp 96) rfl i1 g5 5 rfl (.int .i64 (nxtG d i)) rfl rfl _ _ Nt4.out.blk ?_ ?_);(exact (by simp));intro wt5 k5 g5x;have ss:=Nt4.out.setTu (nxtG d i) k5 g5x;have Nt5:=Lib.hid ss.1;have Ft5:=Lib.hid ss.2;clear ss k5 g5x;have NRt5:=Lib.hid (NRt4.out.span Ft5.out (.inl (by have:=GLO.out;omega)));have Bt5:=Lib.hid (bl_frm Bt4.out Ft5.out (by have:=GLO.out;omega));have BX5:=Nt5.out.blk;unfold btL at BX5;simp only at BX5;obtain ⟨x0,-⟩:=BX5.cell 0 _ rfl;obtain ⟨x1,-⟩:=BX5.cell 1 _ rfl;obtain ⟨x2,-⟩:=BX5.cell 2 _ rfl;obtain ⟨x3,-⟩:=BX5.cell 3 _ rfl;obtain ⟨x4,-⟩:=BX5.cell 4 _ rfl;obtain ⟨x5,-⟩:=BX5.cell 5 _ rfl;obtain ⟨x6,-⟩:=BX5.cell 6 _ rfl;obtain ⟨x7,-⟩:=BX5.cell 7 _ rfl;obtain ⟨x8,-⟩:=BX5.cell 8 _ rfl;clear BX5)
      | ((with_reducible refine at_st 27 (.tmp 4) (.tmp 98) rfl ?_);(refine wpList_store_blk 27 9 rfl (.tmp 4) (.tmp 98) rfl iB (w.heap.size + 1 + 1) rfl [.slice M2.a1 d.st.length M2.c1,.slice M2.a2 d.bt.length M2.c2,.slice M2.a3 d.pd.length M2.c3,.slice M2.a4 d.fo.length M2.c4,.slice M2.a5 d.ac.length M2.c5,.int .i64 (nxtG d i),.int .i64 d.un,.int .i64 d.ra,.int .i64 d.li] rfl rfl (by simp [Value.oneCell']) _ NRt5.out rfl ?_);intro w12 k9 g9;have B12:=Lib.hid (below_grown1 Bt5.out g9 (by omega));have R12:=Lib.hid (Nt5.out.rows.grownB g9 (by have:=GLO.out;omega))))
    obtain ⟨z0,_⟩:=k9.cell 0 _ rfl
    obtain ⟨z1,_⟩:=k9.cell 1 _ rfl
    obtain ⟨z2,_⟩:=k9.cell 2 _ rfl
    obtain ⟨z3,_⟩:=k9.cell 3 _ rfl
    obtain ⟨z4,_⟩:=k9.cell 4 _ rfl
    obtain ⟨z5,_⟩:=k9.cell 5 _ rfl
    obtain ⟨z6,_⟩:=k9.cell 6 _ rfl
    obtain ⟨z7,_⟩:=k9.cell 7 _ rfl
    obtain ⟨z8,_⟩:=k9.cell 8 _ rfl
    exact bodyPost_ret (v:=.agg #[.slice M2.a1 d.st.length M2.c1,.slice M2.a2 d.bt.length M2.c2,.slice M2.a3 d.pd.length M2.c3,.slice M2.a4 d.fo.length M2.c4,.slice M2.a5 d.ac.length M2.c5,.int .i64 (nxtG d i),.int .i64 d.un,.int .i64 d.ra,.int .i64 d.li]) (by simp [results,Try.results90,go_sem,z0,z1,z2,z3,z4,z5,z6,z7,z8]) rfl ⟨M2,by rw [HAP.out];rfl,by rw [HAP.out];exact R12.out.less (by have:=GLO.out;omega),B12.out⟩
  ·obtain ⟨c,ec⟩ : ∃ c : Bt,c = { b with ra:=ra',un:=b.un,ac:=b.ac }:=⟨_,rfl⟩
   have LS : Hid (i < c.st.length ∧ i < c.bt.length ∧ (i : Int) < c.st.length ∧ (i : Int) < c.bt.length):=Lib.hid (by rw [ec];exact ⟨hil,hil2,d1,d2⟩)
   have XC : Hid (nth c.st i = X):=Lib.hid (by rw [ec];exact EX.out.symm)
   have YC : Hid (nth c.bt i = Y):=Lib.hid (by rw [ec];exact EY.out.symm)
   have LA : Hid (i < c.ac.length ∧ (i : Int) < c.ac.length):=Lib.hid (by rw [ec];exact ⟨hil5,d5⟩)
   obtain ⟨z,ez⟩ : ∃ z : Int,z = x:=⟨_,rfl⟩
   have HD : Hid (∀ d : Bt,d = { c with st:=c.st.set i (X - (z - Y)),bt:=c.bt.set i z,ac:=c.ac.set i true } → Sd d ∧ appB b 3 x = { d with tu:=nxtG d i }):=Lib.hid (fun d hd=>HAPB d (by
    rw [hd,ec,ez,hfb,decide_eq_false hf]
    rfl))
   subst ez
   have EC:=Lib.hid ec
   have bz : -10000000 ≤ z ∧ z ≤ 10000000:=by omega
   have c12 : decide (t + b.un ≤ z) = false:=decide_eq_false (by omega)
   clear ec HAPB et ex ey hl hn l2 l4 l5 hm hx0 hx1 hfb hfix er
   have b1:=bl_box (w:=w) (L:=L) (b:=b)
   have b2:=bl_alloc (bl_refl (w.alloc (.cells (btL L b).toArray 27))) (.cells ([.int .i64 3,.int .i64 z] : List Value).toArray 34)
   have b3:=bl_alloc (bl_refl ((w.alloc (.cells (btL L b).toArray 27)).alloc (.cells ([.int .i64 3,.int .i64 z] : List Value).toArray 34))) (.cells ([.slice none 0 0,.slice none 0 0,.slice none 0 0,.slice none 0 0,.slice none 0 0,.int .i64 0,.int .i64 0,.int .i64 0,.int .i64 0] : List Value).toArray 27)
   have BT:=((btAt_new h).below b2).below b3
   have n1:=blk_new (w.alloc (.cells (btL L b).toArray 27)) 34 [.int .i64 3,.int .i64 z]
   rw [World.size_alloc] at n1
   have n2:=blk_new ((w.alloc (.cells (btL L b).toArray 27)).alloc (.cells ([.int .i64 3,.int .i64 z] : List Value).toArray 34)) 27 [.slice none 0 0,.slice none 0 0,.slice none 0 0,.slice none 0 0,.slice none 0 0,.int .i64 0,.int .i64 0,.int .i64 0,.int .i64 0]
   rw [World.size_alloc,World.size_alloc] at n2
   have B:=Lib.hid (bl_trans (bl_trans b1 b2) b3)
   have NA:=Lib.hid (n1.below b3)
   have NR:=Lib.hid n2
   have NX:=Lib.hid BT.blk
   have RX:=Lib.hid BT.rd
   have KO:=Lib.hid (l10OwnX_any L b _ BT.rd kk.sm)
   have BT1:=BT.blk
   obtain ⟨lo,elo⟩ : ∃ lo,lo = (((w.alloc (.cells (btL L b).toArray 27)).alloc (.cells ([.int .i64 3,.int .i64 z] : List Value).toArray 34)).alloc (.cells ([.slice none 0 0,.slice none 0 0,.slice none 0 0,.slice none 0 0,.slice none 0 0,.int .i64 0,.int .i64 0,.int .i64 0,.int .i64 0] : List Value).toArray 27)).heap.size:=⟨_,rfl⟩
   have hlo : w.heap.size + 1 + 1 < lo:=by rw [elo];simp only [World.size_alloc];omega
   obtain ⟨q0,-⟩:=BT1.cell 0 _ rfl
   obtain ⟨q1,-⟩:=BT1.cell 1 _ rfl
   obtain ⟨q2,-⟩:=BT1.cell 2 _ rfl
   obtain ⟨q3,-⟩:=BT1.cell 3 _ rfl
   obtain ⟨q4,-⟩:=BT1.cell 4 _ rfl
   obtain ⟨q5,-⟩:=BT1.cell 5 _ rfl
   obtain ⟨q6,-⟩:=BT1.cell 6 _ rfl
   obtain ⟨q7,-⟩:=BT1.cell 7 _ rfl
   obtain ⟨q8,-⟩:=BT1.cell 8 _ rfl
   clear BT1 n1 n2 b1 b2 b3
   clear hi
   unfold bV at *
   go_enter Try.func90,Try.ntmps90
   go_wp2_with ((go_at_call 112;refine KO.out.mono ?_;rintro e w4 ⟨M,rfl,hr,hb⟩;rw [← elo] at hr;have hb5:=bl_trans hb (bl_alloc (bl_refl w4) (.cells (btL M b).toArray 27));have N5:=Lib.hid (NC.new hr (by rw [elo];exact hb.size));have NX5:=Lib.hid (NX.out.below hb5);have RX5:=Lib.hid (RX.out.below hb5);have NA5:=Lib.hid (NA.out.below hb5);have NR5:=Lib.hid (NR.out.below hb5);have B5:=Lib.hid (bl_trans B.out hb5);clear hr hb hb5))
   have GLO:=Lib.hid (And.intro hlo (Nat.le_refl lo))
   obtain ⟨g5,eg⟩ : ∃ g,g = w4.heap.size:=⟨_,rfl⟩
   obtain ⟨w5,e5⟩ : ∃ W,W = w4.alloc (.cells (btL M b).toArray 27):=⟨_,rfl⟩
   rw [← e5,← eg] at N5
   rw [← e5] at NX5 RX5 NA5 NR5 B5
   simp only [btL,List.toArray] at e5
   rw [← eg,← e5]
   clear eg e5 elo hlo KO BT NA NR NX RX B
   have NX5i : Hid (Blk w5 w.heap.size 27 [.slice L.a1 b.st.length L.c1,.slice L.a2 b.bt.length L.c2,.slice L.a3 b.pd.length L.c3,.slice L.a4 b.fo.length L.c4,.slice L.a5 b.ac.length L.c5,.int .i64 i,.int .i64 b.un,.int .i64 b.ra,.int .i64 b.li]):=Lib.hid (by have q:=NX5.out;unfold btL at q;rw [HI.out] at q;exact q)
   have KMX : Hid (∀ W : World,Rd5 W L b → Calls Try.prog 137 #[.agg #[.slice L.a1 b.st.length L.c1,.slice L.a2 b.bt.length L.c2,.slice L.a3 b.pd.length L.c3,.slice L.a4 b.fo.length L.c4,.slice L.a5 b.ac.length L.c5,.int .i64 i,.int .i64 b.un,.int .i64 b.ra,.int .i64 b.li]] W (Fresh (.int .i64 t) W)):=Lib.hid (fun W hW=>by have q:=KM.out L W hW;unfold bV at q;rw [HI.out] at q;exact q)
   refine wp_region_W (last:=5) (k:=5) hmx rfl (fun HC0=>?_)
   refine wpAnyR_takeL (i:=0) (kw:=6) (v:=.pointer (some ⟨w.heap.size,5,none⟩)) (fun _=>bl_refl _) (fun p q=>bl_trans p q) rfl rfl (by kernel_rfl) (by kernel_rfl) (by kernel_rfl) (by kernel_rfl) (fun _ _ _ h=>h) HC0 (Or.inl ⟨by kernel_rfl,fun W' hI=>?_⟩) (fun HC1=>?_)
   ·exact .inl (by go_simp)
   refine wpAnyR_takeL (i:=1) (kw:=6) (v:=.int .i64 i) (fun _=>bl_refl _) (fun p q=>bl_trans p q) rfl rfl (by kernel_rfl) (by kernel_rfl) (by kernel_rfl) (by kernel_rfl) (fun _ _ _ h=>h) HC1 (Or.inl ⟨by kernel_rfl,fun W' hI=>?_⟩) (fun HC2=>?_)
   ·have hv:=(NX5i.out).below hI
    obtain ⟨z5,_⟩:=hv.cell 5 _ rfl
    exact .inl (by go_simp)
   refine wpAnyR_takeL (i:=2) (kw:=2) (v:=.agg #[.slice L.a1 b.st.length L.c1,.slice L.a2 b.bt.length L.c2,.slice L.a3 b.pd.length L.c3,.slice L.a4 b.fo.length L.c4,.slice L.a5 b.ac.length L.c5,.int .i64 i,.int .i64 b.un,.int .i64 b.ra,.int .i64 b.li]) (fun _=>bl_refl _) (fun p q=>bl_trans p q) rfl rfl (by kernel_rfl) (by kernel_rfl) (by kernel_rfl) (by kernel_rfl) (fun _ _ _ h=>h) HC2 (Or.inl ⟨by kernel_rfl,fun W' hI=>?_⟩) (fun HC3=>?_)
   ·have hv:=(NX5i.out).below hI
    obtain ⟨z0,_⟩:=hv.cell 0 _ rfl
    obtain ⟨z1,_⟩:=hv.cell 1 _ rfl
    obtain ⟨z2,_⟩:=hv.cell 2 _ rfl
    obtain ⟨z3,_⟩:=hv.cell 3 _ rfl
    obtain ⟨z4,_⟩:=hv.cell 4 _ rfl
    obtain ⟨z5,_⟩:=hv.cell 5 _ rfl
    obtain ⟨z6,_⟩:=hv.cell 6 _ rfl
    obtain ⟨z7,_⟩:=hv.cell 7 _ rfl
    obtain ⟨z8,_⟩:=hv.cell 8 _ rfl
    exact .inl (by go_simp)
   refine wpAnyR_takeL (i:=3) (kw:=1) (v:=.int .i64 t) (fun _=>bl_refl _) (fun p q=>bl_trans p q) rfl rfl (by kernel_rfl) (by kernel_rfl) (by kernel_rfl) (by kernel_rfl) (fun _ _ _ h=>h) HC3 (Or.inl ⟨by kernel_rfl,fun W' hI=>?_⟩) (fun HC4=>?_)
   ·exact .inr ⟨137,#[.agg #[.slice L.a1 b.st.length L.c1,.slice L.a2 b.bt.length L.c2,.slice L.a3 b.pd.length L.c3,.slice L.a4 b.fo.length L.c4,.slice L.a5 b.ac.length L.c5,.int .i64 i,.int .i64 b.un,.int .i64 b.ra,.int .i64 b.li]],by go_simp,KMX.out W' (RX5.out.below hI)⟩
   refine wpAnyR_takeL (i:=4) (kw:=6) (v:=.int .i64 i) (fun _=>bl_refl _) (fun p q=>bl_trans p q) rfl rfl (by kernel_rfl) (by kernel_rfl) (by kernel_rfl) (by kernel_rfl) (fun _ _ _ h=>h) HC4 (Or.inl ⟨by kernel_rfl,fun W' hI=>?_⟩) (fun HC5=>?_)
   ·exact .inl (by go_simp)
   refine wpAnyR_lastL (by kernel_rfl) (by kernel_rfl) rfl (by kernel_rfl) (fun wR hrR=>⟨bl_drewT hrR,?_⟩)
   intro K hK
   have BR:=Lib.hid (bl_drewT hrR)
   clear hrR
   go_simp
   refine hK _ _ ?_
   clear hK K
   have N6:=Lib.hid (N5.out.below BR.out)
   have NX6:=Lib.hid (NX5i.out.below BR.out)
   have NA6:=Lib.hid (NA5.out.below BR.out)
   have NR6:=Lib.hid (NR5.out.below BR.out)
   have B6:=Lib.hid (bl_trans B5.out BR.out)
   clear N5 NX5 NX5i RX5 NA5 NR5 B5 BR KMX
   obtain ⟨b1,o1,e1,-⟩:=N6.out.rows.r1.rd.at_0 i hil
   obtain ⟨b2,o2,e2,-⟩:=N6.out.rows.r2.rd.at_0 i hil2
   obtain ⟨b4,o4,e4,-⟩:=N6.out.rows.r4.rd.at_0 i hil4
   obtain ⟨b5,o5,e5,-⟩:=N6.out.rows.r5.rd.at_0 i hil5
   have E1:=Lib.hid e1
   have E2:=Lib.hid e2
   have E4:=Lib.hid e4
   have E5:=Lib.hid e5
   clear e1 e2 e4 e5
   have cx:=(N6.out.rows.r1.cellE E1.out i hil).1
   have cy:=(N6.out.rows.r2.cellE E2.out i hil2).1
   rw [← EX.out] at cx
   rw [← EY.out] at cy
   have BX6:=N6.out.blk
   unfold btL at BX6
   rw [E1.out,E2.out,E4.out,E5.out] at BX6
   obtain ⟨y0,-⟩:=BX6.cell 0 _ rfl
   obtain ⟨y1,-⟩:=BX6.cell 1 _ rfl
   obtain ⟨y3,-⟩:=BX6.cell 3 _ rfl
   obtain ⟨y7,-⟩:=BX6.cell 7 _ rfl
   obtain ⟨p0,-⟩:=NA6.out.cell 0 _ rfl
   obtain ⟨p1,-⟩:=NA6.out.cell 1 _ rfl
   clear BX6
   have u4x:=NX6.out
   obtain ⟨u6,-⟩:=u4x.cell 6 _ rfl
   clear u4x
   go_wp2_with (first
     | ((with_reducible refine wpList_store_at 2 rfl (.tmp 49) (.tmp 48) rfl i1 g5 7 rfl (.int .i64 ra') rfl rfl _ _ N6.out.blk ?_ ?_);(exact (by simp));intro w7 k5 g5x;have ss:=N6.out.setRa ra' k5 g5x;have N7:=Lib.hid ss.1;have F7:=Lib.hid ss.2;clear ss k5 g5x;have NX7:=Lib.hid (NX6.out.span F7.out (.inl (by have:=GLO.out;omega)));have NA7:=Lib.hid (NA6.out.span F7.out (.inl (by have:=GLO.out;omega)));have NR7:=Lib.hid (NR6.out.span F7.out (.inl (by have:=GLO.out;omega)));have B7:=Lib.hid (bl_frm B6.out F7.out (by have:=GLO.out;omega));obtain ⟨v4,-⟩:=NX7.out.cell 4 _ rfl;obtain ⟨v6,-⟩:=NX7.out.cell 6 _ rfl;obtain ⟨v8,-⟩:=NX7.out.cell 8 _ rfl))
   have Nc:=Lib.hid (show NC w7 lo g5 M c by rw [EC.out];exact N7.out)
   clear N7
   have N7:=Nc
   clear Nc
   clear cx cy y0 y1 y3 y7 p0 p1
   have HNc : Hid (Blk w7 g5 27 [.slice (some ⟨b1,o1,none⟩) c.st.length M.c1,.slice (some ⟨b2,o2,none⟩) c.bt.length M.c2,.slice M.a3 c.pd.length M.c3,.slice M.a4 c.fo.length M.c4,.slice M.a5 c.ac.length M.c5,.int .i64 c.tu,.int .i64 c.un,.int .i64 c.ra,.int .i64 c.li]):=Lib.hid (by have q:=N7.out.blk;unfold btL at q;rw [E1.out,E2.out] at q;exact q)
   have hc1:=(N7.out.rows.r1.cellE E1.out i LS.out.1).1
   have hc2:=(N7.out.rows.r2.cellE E2.out i LS.out.2.1).1
   rw [XC.out] at hc1
   rw [YC.out] at hc2
   have H1 : Hid (∀ W',Below w7.heap.size w7 W' → W'.cell? ⟨b1,o1 + i,none⟩ = some (.int .i64 X)):=Lib.hid (fun W' hI=>(hI.cell (p:=⟨b1,o1 + i,none⟩) (World.block_lt_of_cell? _ _ hc1)).trans hc1)
   have H2 : Hid (∀ W',Below w7.heap.size w7 W' → W'.cell? ⟨b2,o2 + i,none⟩ = some (.int .i64 Y)):=Lib.hid (fun W' hI=>(hI.cell (p:=⟨b2,o2 + i,none⟩) (World.block_lt_of_cell? _ _ hc2)).trans hc2)
   clear hc1 hc2
   have dc1:=LS.out.2.2.1
   have dc2:=LS.out.2.2.2
   have dc5:=LA.out.2
   refine wp_region_W (last:=17) (k:=17) hmx rfl (fun HD0=>?_)
   refine wpAnyR_takeL (i:=0) (kw:=3) (v:=.pointer (some ⟨g5,0,none⟩)) (fun _=>bl_refl _) (fun p q=>bl_trans p q) rfl rfl (by kernel_rfl) (by kernel_rfl) (by kernel_rfl) (by kernel_rfl) (fun _ _ _ h=>h) HD0 (Or.inl ⟨by kernel_rfl,fun W' hI=>?_⟩) (fun HD1=>?_)
   ·exact .inl (by go_simp)
   refine wpAnyR_takeL (i:=1) (kw:=2) (v:=.slice (some ⟨b1,o1,none⟩) c.st.length M.c1) (fun _=>bl_refl _) (fun p q=>bl_trans p q) rfl rfl (by kernel_rfl) (by kernel_rfl) (by kernel_rfl) (by kernel_rfl) (fun _ _ _ h=>h) HD1 (Or.inl ⟨by kernel_rfl,fun W' hI=>?_⟩) (fun HD2=>?_)
   ·have hv:=(HNc.out).below hI
    obtain ⟨z0,_⟩:=hv.cell 0 _ rfl
    exact .inl (by go_simp)
   refine wpAnyR_takeL (i:=2) (kw:=2) (v:=.int .i64 i) (fun _=>bl_refl _) (fun p q=>bl_trans p q) rfl rfl (by kernel_rfl) (by kernel_rfl) (by kernel_rfl) (by kernel_rfl) (fun _ _ _ h=>h) HD2 (Or.inl ⟨by kernel_rfl,fun W' hI=>?_⟩) (fun HD3=>?_)
   ·exact .inl (by go_simp)
   refine wpAnyR_takeL (i:=3) (kw:=5) (v:=.pointer (some ⟨g5,0,none⟩)) (fun _=>bl_refl _) (fun p q=>bl_trans p q) rfl rfl (by kernel_rfl) (by kernel_rfl) (by kernel_rfl) (by kernel_rfl) (fun _ _ _ h=>h) HD3 (Or.inl ⟨by kernel_rfl,fun W' hI=>?_⟩) (fun HD4=>?_)
   ·exact .inl (by go_simp)
   refine wpAnyR_takeL (i:=4) (kw:=4) (v:=.slice (some ⟨b1,o1,none⟩) c.st.length M.c1) (fun _=>bl_refl _) (fun p q=>bl_trans p q) rfl rfl (by kernel_rfl) (by kernel_rfl) (by kernel_rfl) (by kernel_rfl) (fun _ _ _ h=>h) HD4 (Or.inl ⟨by kernel_rfl,fun W' hI=>?_⟩) (fun HD5=>?_)
   ·have hv:=(HNc.out).below hI
    obtain ⟨z0,_⟩:=hv.cell 0 _ rfl
    exact .inl (by go_simp)
   refine wpAnyR_takeL (i:=5) (kw:=4) (v:=.int .i64 i) (fun _=>bl_refl _) (fun p q=>bl_trans p q) rfl rfl (by kernel_rfl) (by kernel_rfl) (by kernel_rfl) (by kernel_rfl) (fun _ _ _ h=>h) HD5 (Or.inl ⟨by kernel_rfl,fun W' hI=>?_⟩) (fun HD6=>?_)
   ·exact .inl (by go_simp)
   refine wpAnyR_takeL (i:=6) (kw:=3) (v:=.pointer (some ⟨b1,o1 + i,none⟩)) (fun _=>bl_refl _) (fun p q=>bl_trans p q) rfl rfl (by kernel_rfl) (by kernel_rfl) (by kernel_rfl) (by kernel_rfl) (fun _ _ _ h=>h) HD6 (Or.inl ⟨by kernel_rfl,fun W' hI=>?_⟩) (fun HD7=>?_)
   ·exact .inl (by go_simp)
   refine wpAnyR_takeL (i:=7) (kw:=2) (v:=.int .i64 X) (fun _=>bl_refl _) (fun p q=>bl_trans p q) rfl rfl (by kernel_rfl) (by kernel_rfl) (by kernel_rfl) (by kernel_rfl) (fun _ _ _ h=>h) HD7 (Or.inl ⟨by kernel_rfl,fun W' hI=>?_⟩) (fun HD8=>?_)
   ·have hx:=H1.out W' hI
    exact .inl (by go_simp)
   refine wpAnyR_takeL (i:=8) (kw:=3) (v:=.int .i64 z) (fun _=>bl_refl _) (fun p q=>bl_trans p q) rfl rfl (by kernel_rfl) (by kernel_rfl) (by kernel_rfl) (by kernel_rfl) (fun _ _ _ h=>h) HD8 (Or.inl ⟨by kernel_rfl,fun W' hI=>?_⟩) (fun HD9=>?_)
   ·exact .inl (by go_simp)
   refine wpAnyR_takeL (i:=9) (kw:=6) (v:=.pointer (some ⟨g5,1,none⟩)) (fun _=>bl_refl _) (fun p q=>bl_trans p q) rfl rfl (by kernel_rfl) (by kernel_rfl) (by kernel_rfl) (by kernel_rfl) (fun _ _ _ h=>h) HD9 (Or.inl ⟨by kernel_rfl,fun W' hI=>?_⟩) (fun HD10=>?_)
   ·exact .inl (by go_simp)
   refine wpAnyR_takeL (i:=10) (kw:=5) (v:=.slice (some ⟨b2,o2,none⟩) c.bt.length M.c2) (fun _=>bl_refl _) (fun p q=>bl_trans p q) rfl rfl (by kernel_rfl) (by kernel_rfl) (by kernel_rfl) (by kernel_rfl) (fun _ _ _ h=>h) HD10 (Or.inl ⟨by kernel_rfl,fun W' hI=>?_⟩) (fun HD11=>?_)
   ·have hv:=(HNc.out).below hI
    obtain ⟨z1,_⟩:=hv.cell 1 _ rfl
    exact .inl (by go_simp)
   refine wpAnyR_takeL (i:=11) (kw:=5) (v:=.int .i64 i) (fun _=>bl_refl _) (fun p q=>bl_trans p q) rfl rfl (by kernel_rfl) (by kernel_rfl) (by kernel_rfl) (by kernel_rfl) (fun _ _ _ h=>h) HD11 (Or.inl ⟨by kernel_rfl,fun W' hI=>?_⟩) (fun HD12=>?_)
   ·exact .inl (by go_simp)
   refine wpAnyR_takeL (i:=12) (kw:=4) (v:=.pointer (some ⟨b2,o2 + i,none⟩)) (fun _=>bl_refl _) (fun p q=>bl_trans p q) rfl rfl (by kernel_rfl) (by kernel_rfl) (by kernel_rfl) (by kernel_rfl) (fun _ _ _ h=>h) HD12 (Or.inl ⟨by kernel_rfl,fun W' hI=>?_⟩) (fun HD13=>?_)
   ·exact .inl (by go_simp)
   refine wpAnyR_takeL (i:=13) (kw:=3) (v:=.int .i64 Y) (fun _=>bl_refl _) (fun p q=>bl_trans p q) rfl rfl (by kernel_rfl) (by kernel_rfl) (by kernel_rfl) (by kernel_rfl) (fun _ _ _ h=>h) HD13 (Or.inl ⟨by kernel_rfl,fun W' hI=>?_⟩) (fun HD14=>?_)
   ·have hx:=H2.out W' hI
    exact .inl (by go_simp)
   refine wpAnyR_takeL (i:=14) (kw:=2) (v:=.int .i64 (z - Y)) (fun _=>bl_refl _) (fun p q=>bl_trans p q) rfl rfl (by kernel_rfl) (by kernel_rfl) (by kernel_rfl) (by kernel_rfl) (fun _ _ _ h=>h) HD14 (Or.inl ⟨by kernel_rfl,fun W' hI=>?_⟩) (fun HD15=>?_)
   ·exact .inl (by go_simp;first | done | exact IntWalk.i64_in _ (by omega))
   refine wpAnyR_takeL (i:=15) (kw:=1) (v:=.int .i64 (X - (z - Y))) (fun _=>bl_refl _) (fun p q=>bl_trans p q) rfl rfl (by kernel_rfl) (by kernel_rfl) (by kernel_rfl) (by kernel_rfl) (fun _ _ _ h=>h) HD15 (Or.inl ⟨by kernel_rfl,fun W' hI=>?_⟩) (fun HD16=>?_)
   ·exact .inl (by go_simp;first | done | exact IntWalk.i64_in _ (by omega))
   refine wpAnyR_takeL (i:=16) (kw:=1) (v:=.pointer (some ⟨b1,o1 + i,none⟩)) (fun _=>bl_refl _) (fun p q=>bl_trans p q) rfl rfl (by kernel_rfl) (by kernel_rfl) (by kernel_rfl) (by kernel_rfl) (fun _ _ _ h=>h) HD16 (Or.inl ⟨by kernel_rfl,fun W' hI=>?_⟩) (fun HD17=>?_)
   ·exact .inl (by go_simp)
   refine wpAnyR_lastL (by kernel_rfl) (by kernel_rfl) rfl (by kernel_rfl) (fun wS hrR=>⟨bl_drewT hrR,?_⟩)
   intro K hK
   have BR:=Lib.hid (bl_drewT hrR)
   clear hrR
   have Nt0:=Lib.hid (N7.out.below BR.out)
   have NRt0:=Lib.hid (NR7.out.below BR.out)
   have Bt0:=Lib.hid (bl_trans B7.out BR.out)
   have c4:=(Nt0.out.rows.r1.cellE E1.out i LS.out.1).1
   have f4:=(Nt0.out.rows.r1.cellE E1.out i LS.out.1).2
   go_simp
   refine hK _ _ ?_
   clear hK K
   have ss:=Nt0.out.setSt E1.out i LS.out.1 (X - (z - Y))
   clear c4 f4
   generalize wS.setCell ⟨b1,o1 + i,none⟩ (.int .i64 (X - (z - Y))) = w7 at *
   have Nt1:=Lib.hid ss.1
   have NRt1:=Lib.hid (NRt0.out.span ss.2 (.inl (by have:=GLO.out;omega)))
   have Bt1:=Lib.hid (bl_frm Bt0.out ss.2 (by have:=GLO.out;omega))
   have BX1:=ss.1.blk
   unfold btL at BX1
   simp only at BX1
   rw [E2.out] at BX1
   obtain ⟨y1,-⟩:=BX1.cell 1 _ rfl
   clear ss BX1 HNc H1 H2 Nt0 NRt0 Bt0 BR N7 NX7 NA7 NR7 B7
   go_wp2_with (first
     | ((with_reducible refine at_st 2 (.tmp 89) (.tmp 88) rfl ?_);(refine wpList_store_el 2 rfl (.tmp 89) (.tmp 88) rfl (by kernel_rfl) ⟨b2,o2 + i,none⟩ rfl (.int .i64 z) rfl rfl _ (Nt1.out.rows.r2.cellE E2.out i LS.out.2.1).1 (Nt1.out.rows.r2.cellE E2.out i LS.out.2.1).2 ?_);have ss:=Nt1.out.setBt E2.out i LS.out.2.1 z;obtain ⟨wt2,ew⟩ : ∃ W : World,W = w7.setCell ⟨b2,o2 + i,none⟩ (.int .i64 z):=⟨_,rfl⟩;rw [← ew] at ss ⊢;clear ew;have Nt2:=Lib.hid ss.1;have Ft2:=Lib.hid ss.2;clear ss;have NRt2:=Lib.hid (NRt1.out.span Ft2.out (.inl (by have:=GLO.out;omega)));have Bt2:=Lib.hid (bl_frm Bt1.out Ft2.out (by have:=GLO.out;omega));have BX2:=Nt2.out.blk;unfold btL at BX2;simp only at BX2;rw [E5.out] at BX2;obtain ⟨u4,-⟩:=BX2.cell 4 _ rfl;clear BX2)
     | ((with_reducible refine at_st 4 (.tmp 93) (.const (.bool true)) rfl ?_);(refine wpList_store_el 4 rfl (.tmp 93) (.const (.bool true)) rfl (by kernel_rfl) ⟨b5,o5 + i,none⟩ rfl (.bool true) rfl rfl _ (Nt2.out.rows.r5.cellE E5.out i LA.out.1).1 (Nt2.out.rows.r5.cellE E5.out i LA.out.1).2 ?_);have ss:=Nt2.out.setAc E5.out i LA.out.1 true;obtain ⟨wt3,ew⟩ : ∃ W : World,W = wt2.setCell ⟨b5,o5 + i,none⟩ (.bool true):=⟨_,rfl⟩;rw [← ew] at ss ⊢;clear ew;have Nt3:=Lib.hid ss.1;have Ft3:=Lib.hid ss.2;clear ss;have NRt3:=Lib.hid (NRt2.out.span Ft3.out (.inl (by have:=GLO.out;omega)));have Bt3:=Lib.hid (bl_frm Bt2.out Ft3.out (by have:=GLO.out;omega));obtain ⟨d,ed⟩ : ∃ d : Bt,d = { c with st:=c.st.set i (X - (z - Y)),bt:=c.bt.set i z,ac:=c.ac.set i true }:=⟨_,rfl⟩;have Nd:=Lib.hid (show NC wt3 lo g5 M d from ed ▸ Nt3.out);have hd:=HD.out d ed;have KN:=Lib.hid (fun (W : World) (hW : Rd5 W M d)=>l10Next_any M d i W hW hd.1 (by omega) (by omega));have HAP:=Lib.hid hd.2;clear hd Nt3 ed;unfold bV at KN;have BX3:=Nd.out.blk;unfold btL at BX3;obtain ⟨v0,-⟩:=BX3.cell 0 _ rfl;obtain ⟨v1,-⟩:=BX3.cell 1 _ rfl;obtain ⟨v2,-⟩:=BX3.cell 2 _ rfl;obtain ⟨v3,-⟩:=BX3.cell 3 _ rfl;obtain ⟨v4,-⟩:=BX3.cell 4 _ rfl;obtain ⟨v5,-⟩:=BX3.cell 5 _ rfl;obtain ⟨v6,-⟩:=BX3.cell 6 _ rfl;obtain ⟨v7,-⟩:=BX3.cell 7 _ rfl;obtain ⟨v8,-⟩:=BX3.cell 8 _ rfl;clear BX3)
     | (go_at_call 152;refine (KN.out _ Nd.out.rows.rd).mono ?_;rintro e wt4 ⟨rfl,hb⟩;have Nt4:=Lib.hid (Nd.out.below hb);have NRt4:=Lib.hid (NRt3.out.below hb);have Bt4:=Lib.hid (bl_trans Bt3.out hb);clear hb)
     | ((with_reducible refine wpList_store_at 2 rfl (.tmp 97) (.tmp 96) rfl i1 g5 5 rfl (.int .i64 (nxtG d i)) rfl rfl _ _ Nt4.out.blk ?_ ?_);(exact (by simp));intro wt5 k5 g5x;have ss:=Nt4.out.setTu (nxtG d i) k5 g5x;have Nt5:=Lib.hid ss.1;have Ft5:=Lib.hid ss.2;clear ss k5 g5x;have NRt5:=Lib.hid (NRt4.out.span Ft5.out (.inl (by have:=GLO.out;omega)));have Bt5:=Lib.hid (bl_frm Bt4.out Ft5.out (by have:=GLO.out;omega));have BX5:=Nt5.out.blk;unfold btL at BX5;simp only at BX5;obtain ⟨x0,-⟩:=BX5.cell 0 _ rfl;obtain ⟨x1,-⟩:=BX5.cell 1 _ rfl;obtain ⟨x2,-⟩:=BX5.cell 2 _ rfl;obtain ⟨x3,-⟩:=BX5.cell 3 _ rfl;obtain ⟨x4,-⟩:=BX5.cell 4 _ rfl;obtain ⟨x5,-⟩:=BX5.cell 5 _ rfl;obtain ⟨x6,-⟩:=BX5.cell 6 _ rfl;obtain ⟨x7,-⟩:=BX5.cell 7 _ rfl;obtain ⟨x8,-⟩:=BX5.cell 8 _ rfl;clear BX5)
     | ((with_reducible refine at_st 27 (.tmp 4) (.tmp 98) rfl ?_);(refine wpList_store_blk 27 9 rfl (.tmp 4) (.tmp 98) rfl iB (w.heap.size + 1 + 1) rfl [.slice M.a1 d.st.length M.c1,.slice M.a2 d.bt.length M.c2,.slice M.a3 d.pd.length M.c3,.slice M.a4 d.fo.length M.c4,.slice M.a5 d.ac.length M.c5,.int .i64 (nxtG d i),.int .i64 d.un,.int .i64 d.ra,.int .i64 d.li] rfl rfl (by simp [Value.oneCell']) _ NRt5.out rfl ?_);intro w12 k9 g9;have B12:=Lib.hid (below_grown1 Bt5.out g9 (by omega));have R12:=Lib.hid (Nt5.out.rows.grownB g9 (by have:=GLO.out;omega))))
   obtain ⟨z0,_⟩:=k9.cell 0 _ rfl
   obtain ⟨z1,_⟩:=k9.cell 1 _ rfl
   obtain ⟨z2,_⟩:=k9.cell 2 _ rfl
   obtain ⟨z3,_⟩:=k9.cell 3 _ rfl
   obtain ⟨z4,_⟩:=k9.cell 4 _ rfl
   obtain ⟨z5,_⟩:=k9.cell 5 _ rfl
   obtain ⟨z6,_⟩:=k9.cell 6 _ rfl
   obtain ⟨z7,_⟩:=k9.cell 7 _ rfl
   obtain ⟨z8,_⟩:=k9.cell 8 _ rfl
   exact bodyPost_ret (v:=.agg #[.slice M.a1 d.st.length M.c1,.slice M.a2 d.bt.length M.c2,.slice M.a3 d.pd.length M.c3,.slice M.a4 d.fo.length M.c4,.slice M.a5 d.ac.length M.c5,.int .i64 (nxtG d i),.int .i64 d.un,.int .i64 d.ra,.int .i64 d.li]) (by simp [results,Try.results90,go_sem,z0,z1,z2,z3,z4,z5,z6,z7,z8]) rfl ⟨M,by rw [HAP.out];rfl,by rw [HAP.out];exact R12.out.less (by have:=GLO.out;omega),B12.out⟩
set_option maxRecDepth 100000 in
set_option maxHeartbeats 1000000 in
theorem specApply_any (L : At5) (b : Bt) (k x : Int) (w : World) (h : Rd5 w L b) (z : Sz b) :
  Calls Try.prog 23 #[bV L b,.agg #[.int .i64 k,.int .i64 x]] w (NewBtC (applyR b k x) (actC b k x) w):=by
 have iB : (Try.prog.info? 27).map (·.size) = some 9:=by kernel_rfl
 have KC:=Lib.hid (fun (W : World) (hW : Rd5 W L b)=>l10Code_any L b W hW z)
 have KG:=Lib.hid (fun (kk : Ok b) (ho : openB b = true) (W : World) (hW : Rd5 W L b)=>l10Legal_any L b k x W hW kk ho)
 have KA:=Lib.hid (fun (kk : Ok b) (hl : legB b k x = true) (W : World) (hW : Rd5 W L b)=>l10Apply_any L b k x W hW kk hl)
 have b1:=bl_box (w:=w) (L:=L) (b:=b)
 have b2:=bl_alloc (bl_refl (w.alloc (.cells (btL L b).toArray 27))) (.cells ([.int .i64 k,.int .i64 x] : List Value).toArray 34)
 have b3:=bl_alloc (bl_refl ((w.alloc (.cells (btL L b).toArray 27)).alloc (.cells ([.int .i64 k,.int .i64 x] : List Value).toArray 34))) (.cells ([.slice none 0 0,.slice none 0 0,.slice none 0 0,.slice none 0 0,.slice none 0 0,.int .i64 0,.int .i64 0,.int .i64 0,.int .i64 0] : List Value).toArray 27)
 have BT:=((btAt_new h).below b2).below b3
 have n1:=blk_new (w.alloc (.cells (btL L b).toArray 27)) 34 [.int .i64 k,.int .i64 x]
 rw [World.size_alloc] at n1
 have n2:=blk_new ((w.alloc (.cells (btL L b).toArray 27)).alloc (.cells ([.int .i64 k,.int .i64 x] : List Value).toArray 34)) 27 [.slice none 0 0,.slice none 0 0,.slice none 0 0,.slice none 0 0,.slice none 0 0,.int .i64 0,.int .i64 0,.int .i64 0,.int .i64 0]
 rw [World.size_alloc,World.size_alloc] at n2
 have B:=Lib.hid (bl_trans (bl_trans b1 b2) b3)
 have NA:=Lib.hid (n1.below b3)
 have NR:=Lib.hid n2
 have BH:=Lib.hid BT
 obtain ⟨q0,-⟩:=BT.blk.cell 0 _ rfl
 obtain ⟨q1,-⟩:=BT.blk.cell 1 _ rfl
 obtain ⟨q2,-⟩:=BT.blk.cell 2 _ rfl
 obtain ⟨q3,-⟩:=BT.blk.cell 3 _ rfl
 obtain ⟨q4,-⟩:=BT.blk.cell 4 _ rfl
 obtain ⟨q5,-⟩:=BT.blk.cell 5 _ rfl
 obtain ⟨q6,-⟩:=BT.blk.cell 6 _ rfl
 obtain ⟨q7,-⟩:=BT.blk.cell 7 _ rfl
 obtain ⟨q8,-⟩:=BT.blk.cell 8 _ rfl
 clear h BT n1 n2 b1 b2 b3
 rcases hv : okB b with _ | _
 ·have e1 : actC b k x = 1:=by unfold actC;rw [hv];rfl
  have e2 : applyR b k x = zB:=by unfold applyR;rw [e1];rfl
  rw [codeB_no hv] at KC
  rw [e1,e2]
  clear e1 e2 KG KA
  unfold bV at *
  go_enter Try.func23,Try.ntmps23
  go_wp2_with (first
    | (go_at_call 69;refine (KC.out _ BH.out.rd).mono ?_;rintro e w1 ⟨rfl,hb⟩;have NA1:=Lib.hid (NA.out.below hb);have NR1:=Lib.hid (NR.out.below hb);have BH1:=Lib.hid (BH.out.below hb);have B1:=Lib.hid (bl_trans B.out hb);clear hb;obtain ⟨u0,-⟩:=BH1.out.blk.cell 0 _ rfl;obtain ⟨u1,-⟩:=BH1.out.blk.cell 1 _ rfl;obtain ⟨u2,-⟩:=BH1.out.blk.cell 2 _ rfl;obtain ⟨u3,-⟩:=BH1.out.blk.cell 3 _ rfl;obtain ⟨u4,-⟩:=BH1.out.blk.cell 4 _ rfl;obtain ⟨u5,-⟩:=BH1.out.blk.cell 5 _ rfl;obtain ⟨u6,-⟩:=BH1.out.blk.cell 6 _ rfl;obtain ⟨u7,-⟩:=BH1.out.blk.cell 7 _ rfl;obtain ⟨u8,-⟩:=BH1.out.blk.cell 8 _ rfl;obtain ⟨p0,-⟩:=NA1.out.cell 0 _ rfl;obtain ⟨p1,-⟩:=NA1.out.cell 1 _ rfl)
    | ((with_reducible refine at_st 27 (.tmp 4) (.tmp 19) rfl ?_);(refine wpList_store_blk 27 9 rfl (.tmp 4) (.tmp 19) rfl iB (w.heap.size + 1 + 1) rfl [.slice none 0 0,.slice none 0 0,.slice none 0 0,.slice none 0 0,.slice none 0 0,.int .i64 0,.int .i64 0,.int .i64 0,.int .i64 0] rfl rfl (by simp [Value.oneCell']) _ NR1.out rfl ?_);intro w9 k9 g9;have B9:=Lib.hid (below_grown1 B1.out g9 (by omega))))
  obtain ⟨z0,_⟩:=k9.cell 0 _ rfl
  obtain ⟨z1,_⟩:=k9.cell 1 _ rfl
  obtain ⟨z2,_⟩:=k9.cell 2 _ rfl
  obtain ⟨z3,_⟩:=k9.cell 3 _ rfl
  obtain ⟨z4,_⟩:=k9.cell 4 _ rfl
  obtain ⟨z5,_⟩:=k9.cell 5 _ rfl
  obtain ⟨z6,_⟩:=k9.cell 6 _ rfl
  obtain ⟨z7,_⟩:=k9.cell 7 _ rfl
  obtain ⟨z8,_⟩:=k9.cell 8 _ rfl
  exact bodyPost_ret (v:=.tuple #[.agg #[.slice none 0 0,.slice none 0 0,.slice none 0 0,.slice none 0 0,.slice none 0 0,.int .i64 0,.int .i64 0,.int .i64 0,.int .i64 0],.int .i64 1]) (by simp [results,Try.results23,go_sem,z0,z1,z2,z3,z4,z5,z6,z7,z8]) rfl ⟨zL,rfl,row5_z _ _,B9.out⟩
 rcases ho : openB b with _ | _
 ·have e1 : actC b k x = 5:=by unfold actC;rw [hv,ho];rfl
  have e2 : applyR b k x = zB:=by unfold applyR;rw [e1];rfl
  rw [codeB_shut hv ho] at KC
  rw [e1,e2]
  clear e1 e2 KG KA
  unfold bV at *
  go_enter Try.func23,Try.ntmps23
  go_wp2_with (first
    | (go_at_call 69;refine (KC.out _ BH.out.rd).mono ?_;rintro e w1 ⟨rfl,hb⟩;have NA1:=Lib.hid (NA.out.below hb);have NR1:=Lib.hid (NR.out.below hb);have BH1:=Lib.hid (BH.out.below hb);have B1:=Lib.hid (bl_trans B.out hb);clear hb;obtain ⟨u0,-⟩:=BH1.out.blk.cell 0 _ rfl;obtain ⟨u1,-⟩:=BH1.out.blk.cell 1 _ rfl;obtain ⟨u2,-⟩:=BH1.out.blk.cell 2 _ rfl;obtain ⟨u3,-⟩:=BH1.out.blk.cell 3 _ rfl;obtain ⟨u4,-⟩:=BH1.out.blk.cell 4 _ rfl;obtain ⟨u5,-⟩:=BH1.out.blk.cell 5 _ rfl;obtain ⟨u6,-⟩:=BH1.out.blk.cell 6 _ rfl;obtain ⟨u7,-⟩:=BH1.out.blk.cell 7 _ rfl;obtain ⟨u8,-⟩:=BH1.out.blk.cell 8 _ rfl;obtain ⟨p0,-⟩:=NA1.out.cell 0 _ rfl;obtain ⟨p1,-⟩:=NA1.out.cell 1 _ rfl)
    | ((with_reducible refine at_st 27 (.tmp 4) (.tmp 19) rfl ?_);(refine wpList_store_blk 27 9 rfl (.tmp 4) (.tmp 19) rfl iB (w.heap.size + 1 + 1) rfl [.slice none 0 0,.slice none 0 0,.slice none 0 0,.slice none 0 0,.slice none 0 0,.int .i64 0,.int .i64 0,.int .i64 0,.int .i64 0] rfl rfl (by simp [Value.oneCell']) _ NR1.out rfl ?_);intro w9 k9 g9;have B9:=Lib.hid (below_grown1 B1.out g9 (by omega))))
  obtain ⟨z0,_⟩:=k9.cell 0 _ rfl
  obtain ⟨z1,_⟩:=k9.cell 1 _ rfl
  obtain ⟨z2,_⟩:=k9.cell 2 _ rfl
  obtain ⟨z3,_⟩:=k9.cell 3 _ rfl
  obtain ⟨z4,_⟩:=k9.cell 4 _ rfl
  obtain ⟨z5,_⟩:=k9.cell 5 _ rfl
  obtain ⟨z6,_⟩:=k9.cell 6 _ rfl
  obtain ⟨z7,_⟩:=k9.cell 7 _ rfl
  obtain ⟨z8,_⟩:=k9.cell 8 _ rfl
  exact bodyPost_ret (v:=.tuple #[.agg #[.slice none 0 0,.slice none 0 0,.slice none 0 0,.slice none 0 0,.slice none 0 0,.int .i64 0,.int .i64 0,.int .i64 0,.int .i64 0],.int .i64 5]) (by simp [results,Try.results23,go_sem,z0,z1,z2,z3,z4,z5,z6,z7,z8]) rfl ⟨zL,rfl,row5_z _ _,B9.out⟩
 rw [codeB_open hv ho] at KC
 have kk:=ok_of hv
 have KGX:=Lib.hid (KG.out kk ho)
 clear KG
 have KG:=KGX
 clear KGX
 rcases hl : legB b k x with _ | _
 ·have e1 : actC b k x = 2:=by unfold actC;rw [hv,ho,hl];rfl
  have e2 : applyR b k x = zB:=by unfold applyR;rw [e1];rfl
  rw [hl] at KG
  rw [e1,e2]
  clear e1 e2 hl hv ho KA kk
  unfold bV at *
  go_enter Try.func23,Try.ntmps23
  go_wp2_with (first
    | (go_at_call 69;refine (KC.out _ BH.out.rd).mono ?_;rintro e w1 ⟨rfl,hb⟩;have NA1:=Lib.hid (NA.out.below hb);have NR1:=Lib.hid (NR.out.below hb);have BH1:=Lib.hid (BH.out.below hb);have B1:=Lib.hid (bl_trans B.out hb);clear hb;obtain ⟨u0,-⟩:=BH1.out.blk.cell 0 _ rfl;obtain ⟨u1,-⟩:=BH1.out.blk.cell 1 _ rfl;obtain ⟨u2,-⟩:=BH1.out.blk.cell 2 _ rfl;obtain ⟨u3,-⟩:=BH1.out.blk.cell 3 _ rfl;obtain ⟨u4,-⟩:=BH1.out.blk.cell 4 _ rfl;obtain ⟨u5,-⟩:=BH1.out.blk.cell 5 _ rfl;obtain ⟨u6,-⟩:=BH1.out.blk.cell 6 _ rfl;obtain ⟨u7,-⟩:=BH1.out.blk.cell 7 _ rfl;obtain ⟨u8,-⟩:=BH1.out.blk.cell 8 _ rfl;obtain ⟨p0,-⟩:=NA1.out.cell 0 _ rfl;obtain ⟨p1,-⟩:=NA1.out.cell 1 _ rfl)
    | (go_at_call 84;refine (KG.out _ BH1.out.rd).mono ?_;rintro e w2 ⟨rfl,hb⟩;have NA2:=Lib.hid (NA1.out.below hb);have NR2:=Lib.hid (NR1.out.below hb);have BH2:=Lib.hid (BH1.out.below hb);have B2:=Lib.hid (bl_trans B1.out hb);clear hb;obtain ⟨v0,-⟩:=BH2.out.blk.cell 0 _ rfl;obtain ⟨v1,-⟩:=BH2.out.blk.cell 1 _ rfl;obtain ⟨v2,-⟩:=BH2.out.blk.cell 2 _ rfl;obtain ⟨v3,-⟩:=BH2.out.blk.cell 3 _ rfl;obtain ⟨v4,-⟩:=BH2.out.blk.cell 4 _ rfl;obtain ⟨v5,-⟩:=BH2.out.blk.cell 5 _ rfl;obtain ⟨v6,-⟩:=BH2.out.blk.cell 6 _ rfl;obtain ⟨v7,-⟩:=BH2.out.blk.cell 7 _ rfl;obtain ⟨v8,-⟩:=BH2.out.blk.cell 8 _ rfl;obtain ⟨r0,-⟩:=NA2.out.cell 0 _ rfl;obtain ⟨r1,-⟩:=NA2.out.cell 1 _ rfl)
    | ((with_reducible refine at_st 27 (.tmp 4) (.tmp 19) rfl ?_);(refine wpList_store_blk 27 9 rfl (.tmp 4) (.tmp 19) rfl iB (w.heap.size + 1 + 1) rfl [.slice none 0 0,.slice none 0 0,.slice none 0 0,.slice none 0 0,.slice none 0 0,.int .i64 0,.int .i64 0,.int .i64 0,.int .i64 0] rfl rfl (by simp [Value.oneCell']) _ NR2.out rfl ?_);intro w9 k9 g9;have B9:=Lib.hid (below_grown1 B2.out g9 (by omega))))
  obtain ⟨z0,_⟩:=k9.cell 0 _ rfl
  obtain ⟨z1,_⟩:=k9.cell 1 _ rfl
  obtain ⟨z2,_⟩:=k9.cell 2 _ rfl
  obtain ⟨z3,_⟩:=k9.cell 3 _ rfl
  obtain ⟨z4,_⟩:=k9.cell 4 _ rfl
  obtain ⟨z5,_⟩:=k9.cell 5 _ rfl
  obtain ⟨z6,_⟩:=k9.cell 6 _ rfl
  obtain ⟨z7,_⟩:=k9.cell 7 _ rfl
  obtain ⟨z8,_⟩:=k9.cell 8 _ rfl
  exact bodyPost_ret (v:=.tuple #[.agg #[.slice none 0 0,.slice none 0 0,.slice none 0 0,.slice none 0 0,.slice none 0 0,.int .i64 0,.int .i64 0,.int .i64 0,.int .i64 0],.int .i64 2]) (by simp [results,Try.results23,go_sem,z0,z1,z2,z3,z4,z5,z6,z7,z8]) rfl ⟨zL,rfl,row5_z _ _,B9.out⟩
 have e1 : actC b k x = 0:=by unfold actC;rw [hv,ho,hl];rfl
 have e2 : applyR b k x = appB b k x:=by unfold applyR;rw [e1];rfl
 have KAX : Hid (∀ (W : World),Rd5 W L b → Calls Try.prog 90 #[bV L b,.agg #[.int .i64 k,.int .i64 x]] W (NewBx (appB b k x) W)):=Lib.hid (fun W hW=>(KA.out kk hl W hW).mono fun e w' h=>h)
 clear KA
 rw [hl] at KG
 rw [e1,e2]
 clear e1 e2 hl hv ho kk
 generalize appB b k x = c at *
 unfold bV at *
 go_enter Try.func23,Try.ntmps23
 go_wp2_with (first
   | (go_at_call 69;refine (KC.out _ BH.out.rd).mono ?_;rintro e w1 ⟨rfl,hb⟩;have NA1:=Lib.hid (NA.out.below hb);have NR1:=Lib.hid (NR.out.below hb);have BH1:=Lib.hid (BH.out.below hb);have B1:=Lib.hid (bl_trans B.out hb);clear hb;obtain ⟨u0,-⟩:=BH1.out.blk.cell 0 _ rfl;obtain ⟨u1,-⟩:=BH1.out.blk.cell 1 _ rfl;obtain ⟨u2,-⟩:=BH1.out.blk.cell 2 _ rfl;obtain ⟨u3,-⟩:=BH1.out.blk.cell 3 _ rfl;obtain ⟨u4,-⟩:=BH1.out.blk.cell 4 _ rfl;obtain ⟨u5,-⟩:=BH1.out.blk.cell 5 _ rfl;obtain ⟨u6,-⟩:=BH1.out.blk.cell 6 _ rfl;obtain ⟨u7,-⟩:=BH1.out.blk.cell 7 _ rfl;obtain ⟨u8,-⟩:=BH1.out.blk.cell 8 _ rfl;obtain ⟨p0,-⟩:=NA1.out.cell 0 _ rfl;obtain ⟨p1,-⟩:=NA1.out.cell 1 _ rfl)
   | (go_at_call 84;refine (KG.out _ BH1.out.rd).mono ?_;rintro e w2 ⟨rfl,hb⟩;have NA2:=Lib.hid (NA1.out.below hb);have NR2:=Lib.hid (NR1.out.below hb);have BH2:=Lib.hid (BH1.out.below hb);have B2:=Lib.hid (bl_trans B1.out hb);clear hb;obtain ⟨v0,-⟩:=BH2.out.blk.cell 0 _ rfl;obtain ⟨v1,-⟩:=BH2.out.blk.cell 1 _ rfl;obtain ⟨v2,-⟩:=BH2.out.blk.cell 2 _ rfl;obtain ⟨v3,-⟩:=BH2.out.blk.cell 3 _ rfl;obtain ⟨v4,-⟩:=BH2.out.blk.cell 4 _ rfl;obtain ⟨v5,-⟩:=BH2.out.blk.cell 5 _ rfl;obtain ⟨v6,-⟩:=BH2.out.blk.cell 6 _ rfl;obtain ⟨v7,-⟩:=BH2.out.blk.cell 7 _ rfl;obtain ⟨v8,-⟩:=BH2.out.blk.cell 8 _ rfl;obtain ⟨r0,-⟩:=NA2.out.cell 0 _ rfl;obtain ⟨r1,-⟩:=NA2.out.cell 1 _ rfl)
   | (go_at_call 90;refine (KAX.out _ BH2.out.rd).mono ?_;rintro e w3 ⟨M,rfl,hr,hb⟩;have HR3:=Lib.hid hr;have NR3:=Lib.hid (NR2.out.below hb);have B3:=Lib.hid (bl_trans B2.out hb);have G3:=Lib.hid NR2.out.lt;clear hr hb)
   | ((with_reducible refine at_st 27 (.tmp 4) (.tmp 23) rfl ?_);(refine wpList_store_blk 27 9 rfl (.tmp 4) (.tmp 23) rfl iB (w.heap.size + 1 + 1) rfl [.slice M.a1 c.st.length M.c1,.slice M.a2 c.bt.length M.c2,.slice M.a3 c.pd.length M.c3,.slice M.a4 c.fo.length M.c4,.slice M.a5 c.ac.length M.c5,.int .i64 c.tu,.int .i64 c.un,.int .i64 c.ra,.int .i64 c.li] rfl rfl (by simp [Value.oneCell']) _ NR3.out rfl ?_);intro w12 k9 g9;have B12:=Lib.hid (below_grown1 B3.out g9 (by omega));have R12:=Lib.hid (HR3.out.grownB g9 G3.out)))
 obtain ⟨z0,_⟩:=k9.cell 0 _ rfl
 obtain ⟨z1,_⟩:=k9.cell 1 _ rfl
 obtain ⟨z2,_⟩:=k9.cell 2 _ rfl
 obtain ⟨z3,_⟩:=k9.cell 3 _ rfl
 obtain ⟨z4,_⟩:=k9.cell 4 _ rfl
 obtain ⟨z5,_⟩:=k9.cell 5 _ rfl
 obtain ⟨z6,_⟩:=k9.cell 6 _ rfl
 obtain ⟨z7,_⟩:=k9.cell 7 _ rfl
 obtain ⟨z8,_⟩:=k9.cell 8 _ rfl
 exact bodyPost_ret (v:=.tuple #[.agg #[.slice M.a1 c.st.length M.c1,.slice M.a2 c.bt.length M.c2,.slice M.a3 c.pd.length M.c3,.slice M.a4 c.fo.length M.c4,.slice M.a5 c.ac.length M.c5,.int .i64 c.tu,.int .i64 c.un,.int .i64 c.ra,.int .i64 c.li],.int .i64 0]) (by simp [results,Try.results23,go_sem,z0,z1,z2,z3,z4,z5,z6,z7,z8]) rfl ⟨M,rfl,R12.out.less (by have:=B2.out.size;omega),B12.out⟩
end Go.Proofs.Ytnllndcajdofjaa
