/-
 The program: ApplyAction.
-/
import Derived.Test.YtnllndcajdofjaaQbBetPass
import Derived.Test.YtnllndcajdofjaaQbBetDoG
import Derived.Test.YtnllndcajdofjaaQbBetHasCG
import Derived.Test.YtnllndcajdofjaaQbBetClrIG
namespace Go.Proofs.Ytnllndcajdofjaa
open Go.RowKit
set_option linter.unusedVariables false

/-- No round. -/
def zB : Bt:=⟨[],[],[],[],[],0,0,0,0⟩
def zL : At5:=⟨none,none,none,none,none,0,0,0,0,0⟩
theorem row_z (w : World) (lo : Nat) : Row w lo none []:=⟨fun _ e=>(by cases e),fun h=>absurd h (Nat.lt_irrefl 0)⟩
theorem rowB_z (w : World) (lo : Nat) : RowB w lo none []:=⟨fun _ e=>(by cases e),fun h=>absurd h (Nat.lt_irrefl 0)⟩
theorem apt_z : Apt none none:=fun _ _ e _=>(by cases e)
theorem row5_z (w : World) (lo : Nat) : Row5 w lo zL zB:=⟨row_z w lo,row_z w lo,row_z w lo,rowB_z w lo,rowB_z w lo,apt_z,apt_z,apt_z,apt_z,apt_z,apt_z,apt_z,apt_z,apt_z,apt_z⟩
/-- What a call leaves that returns a new round and a code. -/
def NewBtC (b : Bt) (k : Int) (w : World) (e : Ending) (w' : World) : Prop:=∃ L,e = .returned (.tuple #[bV L b,.int .i64 k]) ∧ Row5 w' w.heap.size L b ∧ Below w.heap.size w w'
/-- The round behind an action;none where it is no choice. -/
noncomputable def applyR (b : Bt) (k x : Int) : Bt:=if actC b k x = 0 then appB b k x else zB
theorem Row5.grownB {w w' : World} {lo j : Nat} {L : At5} {b : Bt} (h : Row5 w lo L b) (hg : w.grownBy w' (some j)) (hj : j < lo) : Row5 w' lo L b :=
 h.span ((Span.refl w j (j + 1)).grown hg (fun q e=>by have:=Option.some.inj e;omega)) (.inr hj)
theorem sd_act {b : Bt} {k x : Int} (h : Ok b) (hl : legB b k x = true) : Sd (setAc (actB b k x)) ∧ (actB b k x).tu = b.tu ∧ (actB b k x).st.length = b.st.length ∧ (actB b k x).ac.length = b.st.length:=by
 obtain ⟨i,ht⟩:=Int.eq_ofNat_of_zero_le h.t0
 have hi : i < b.st.length:=by have:=h.t1;omega
 obtain ⟨d,a⟩:=act_of h hl ht
 have l2:=h.l2
 have e1 : (setAc (actB b k x)).st = b.st.set i (nth b.st i - d):=a.st
 have e2 : (setAc (actB b k x)).bt = b.bt.set i (nth b.bt i + d):=a.bt
 have e3 : (setAc (actB b k x)).pd = b.pd:=a.pd
 have e4 : (setAc (actB b k x)).fo = if k = 0 then b.fo.set i true else b.fo:=a.fo
 have e5 : (setAc (actB b k x)).ac.length = b.ac.length:=a.acl
 have e6 : (actB b k x).st = b.st.set i (nth b.st i - d):=a.st
 have e7 : (setAc (actB b k x)).ac.length = (actB b k x).ac.length:=by unfold setAc;simp
 have hs : (setAc (actB b k x)).st.length = b.st.length:=by rw [e1,List.length_set]
 have hA : nth b.bt i + nth b.st i ≤ 600000:=by
  have q1:=nth_le_sum b.st h.s1 i hi
  have q2:=nth_le_sum b.bt h.s2 i (by omega)
  have q3:=sumT_bdC b.pd h.s3 _ (Nat.le_refl _)
  have q4:=h.sum
  unfold allI potI at q4
  omega
 refine ⟨⟨by rw [hs];exact h.n2,by rw [hs];exact h.n6,by rw [e2,List.length_set,hs];exact h.l2,by rw [e3,hs];exact h.l3,?_,by rw [e5,hs];exact h.l5,?_⟩,?_,by rw [e6,List.length_set],by rw [← e7,e5];exact h.l5⟩
 ·rw [e4,hs];split
  ·rw [List.length_set];exact h.l4
  ·exact h.l4
 ·rw [e2]
  intro j hj
  rw [List.length_set] at hj
  rw [nth_set_if _ _ _ (by omega)]
  have b1:=h.s1 i hi
  have b2:=h.s2 i (by omega)
  have d0:=a.d0
  have d1:=a.d1
  split
  ·omega
  ·exact h.s2 j hj
 ·unfold actB;split
  ·rfl
  ·split
   ·rfl
   ·split
    ·rfl
    ·rfl
theorem raise_bd {b : Bt} {x : Int} (h : Ok b) (hl : legB b 3 x = true) : 0 ≤ x ∧ x ≤ 600000:=by
 obtain ⟨i,ht⟩:=Int.eq_ofNat_of_zero_le h.t0
 have hi : i < b.st.length:=by have:=h.t1;omega
 have l2:=h.l2
 have q1:=nth_le_sum b.st h.s1 i hi
 have q2:=nth_le_sum b.bt h.s2 i (by omega)
 have q3:=sumT_bdC b.pd h.s3 _ (Nat.le_refl _)
 have q4:=h.sum
 unfold allI potI at q4
 have t0:=top_bd h.sd
 rcases leg_cases hl with ⟨q,_⟩ | ⟨q,_⟩ | ⟨q,_⟩ | ⟨_,hm,h0,h1⟩
 ·omega
 ·omega
 ·omega
 ·obtain ⟨_,f2,f3,f4,_⟩:=raise_facts h ht hm
  omega
theorem cloneN_any (g : Nat) (L : At5) (b : Bt) (w : World) (h : BtAt w g L b) (m : Sm b) :
  Calls Try.prog 85 #[.pointer (some ⟨g,0,none⟩)] w (fun e w'=>∃ g' L',e = .returned (.pointer (some ⟨g',0,none⟩)) ∧ w.heap.size ≤ g' ∧ NB w' g' L' b ∧ Below w.heap.size w w') :=
 (cloneBt_any g L b w h m).mono fun e w' ⟨L',he,h1,h2,h3⟩=>⟨w.heap.size,L',he,Nat.le_refl _,⟨h1,h2⟩,h3⟩
theorem Ok.sm {b : Bt} (k : Ok b) : Sm b:=⟨by have:=k.n6;omega,by have:=k.n6;have:=k.l2;omega,by have:=k.n6;have:=k.l3;omega,by have:=k.n6;have:=k.l4;omega,by have:=k.n6;have:=k.l5;omega⟩
set_option maxRecDepth 100000 in
theorem run_fieldR (f1 f2 : FuncId) (W : World) : (Instr.field 99 (.agg #[.func (.func f1) #[] #[],.func (.func f2) #[] #[]]) 1).run Try.prog W = .ok (.func (.func f2) #[] #[]) W:=by
 simp [Instr.field,run_underlying Try.underlying99,part,isAgg,run_underlying Try.underlying97,asAgg]
set_option maxRecDepth 100000 in
set_option maxHeartbeats 4000000 in
theorem implApply_any (L : At5) (b : Bt) (k x : Int) (w : World) (h : Rd5 w L b) :
  Calls Try.prog 22 #[bV L b,.agg #[.int .i64 k,.int .i64 x]] w (NewBtC (applyR b k x) (actC b k x) w):=by
 have hmx : Try.prog.follows .mixedOrders = true:=by kernel_rfl
 have iB : (Try.prog.info? 27).map (·.size) = some 9:=by kernel_rfl
 have KV:=Lib.hid (fun (W : World) (hW : Rd5 W L b)=>implChoicesIn_any L b W hW)
 have b1:=bl_box (w:=w) (L:=L) (b:=b)
 have b2:=bl_alloc (bl_refl (w.alloc (.cells (btL L b).toArray 27))) (.cells ([.int .i64 k,.int .i64 x] : List Value).toArray 34)
 have b3:=bl_alloc (bl_refl ((w.alloc (.cells (btL L b).toArray 27)).alloc (.cells ([.int .i64 k,.int .i64 x] : List Value).toArray 34))) (.cells ([.slice none 0 0,.slice none 0 0,.slice none 0 0,.slice none 0 0,.slice none 0 0,.int .i64 0,.int .i64 0,.int .i64 0,.int .i64 0] : List Value).toArray 27)
 have BT:=((btAt_new h).below b2).below b3
 have n1:=blk_new (w.alloc (.cells (btL L b).toArray 27)) 34 [.int .i64 k,.int .i64 x]
 rw [World.size_alloc] at n1
 have n2:=blk_new ((w.alloc (.cells (btL L b).toArray 27)).alloc (.cells ([.int .i64 k,.int .i64 x] : List Value).toArray 34)) 27 [.slice none 0 0,.slice none 0 0,.slice none 0 0,.slice none 0 0,.slice none 0 0,.int .i64 0,.int .i64 0,.int .i64 0,.int .i64 0]
 rw [World.size_alloc,World.size_alloc] at n2
 have B:=Lib.hid (bl_trans (bl_trans b1 b2) b3)
 have NA:=Lib.hid (n1.below b3)
 have NR:=Lib.hid n2
 have BH:=Lib.hid BT
 obtain ⟨q0,-⟩:=BT.blk.cell 0 _ rfl
 obtain ⟨q1,-⟩:=BT.blk.cell 1 _ rfl
 obtain ⟨q2,-⟩:=BT.blk.cell 2 _ rfl
 obtain ⟨q3,-⟩:=BT.blk.cell 3 _ rfl
 obtain ⟨q4,-⟩:=BT.blk.cell 4 _ rfl
 obtain ⟨q5,-⟩:=BT.blk.cell 5 _ rfl
 obtain ⟨q6,-⟩:=BT.blk.cell 6 _ rfl
 obtain ⟨q7,-⟩:=BT.blk.cell 7 _ rfl
 obtain ⟨q8,-⟩:=BT.blk.cell 8 _ rfl
 clear h BT n1 n2 b1 b2 b3
 obtain ⟨c0,ca,le,mo,hch⟩:=chR_form b
 have HC : Hid (okB b = true → openB b = true → chR b = chV (checkB b) (callI b) (leastI b) (mostI b)):=Lib.hid (fun h1 h2=>by unfold chR;rw [h1,h2];rfl)
 have KH:=Lib.hid (fun W=>hasChoice_any c0 ca le mo k x W)
 rw [hch] at KV HC
 rcases hv : okB b with _ | _
 ·have e1 : actC b k x = 1:=by unfold actC;rw [hv];rfl
  have e2 : applyR b k x = zB:=by unfold applyR;rw [e1];rfl
  rw [codeB_no hv] at KV
  rw [e1,e2]
  clear HC e1 e2 KH
  unfold bV chT chV at *
  go_enter Try.func22,Try.ntmps22
  go_wp2_with (first
    | (go_at_call 13;refine (KV.out _ BH.out.rd).mono ?_;rintro e w1 ⟨rfl,hb⟩;have bx:=bl_trans hb (bl_alloc (bl_refl w1) (.cells ([.bool c0,.int .i64 ca,.int .i64 le,.int .i64 mo] : List Value).toArray 30));have Ba:=Lib.hid (bl_trans B.out bx);have NAa:=Lib.hid (NA.out.below bx);have NRa:=Lib.hid (NR.out.below bx);have BHa:=Lib.hid (BH.out.below bx);have NC:=Lib.hid (blk_new w1 30 [.bool c0,.int .i64 ca,.int .i64 le,.int .i64 mo]);obtain ⟨p0,-⟩:=NAa.out.cell 0 _ rfl;obtain ⟨p1,-⟩:=NAa.out.cell 1 _ rfl;obtain ⟨r0,-⟩:=NC.out.cell 0 _ rfl;obtain ⟨r1,-⟩:=NC.out.cell 1 _ rfl;obtain ⟨r2,-⟩:=NC.out.cell 2 _ rfl;obtain ⟨r3,-⟩:=NC.out.cell 3 _ rfl;clear hb bx B NA NR BH)
    | ((with_reducible refine at_st 27 (.tmp 4) (.tmp 16) rfl ?_);(refine wpList_store_blk 27 9 rfl (.tmp 4) (.tmp 16) rfl iB (w.heap.size + 1 + 1) rfl [.slice none 0 0,.slice none 0 0,.slice none 0 0,.slice none 0 0,.slice none 0 0,.int .i64 0,.int .i64 0,.int .i64 0,.int .i64 0] rfl rfl (by simp [Value.oneCell']) _ NRa.out rfl ?_);intro w9 k9 g9;have B9:=Lib.hid (below_grown1 Ba.out g9 (by omega))))
  obtain ⟨z0,_⟩:=k9.cell 0 _ rfl
  obtain ⟨z1,_⟩:=k9.cell 1 _ rfl
  obtain ⟨z2,_⟩:=k9.cell 2 _ rfl
  obtain ⟨z3,_⟩:=k9.cell 3 _ rfl
  obtain ⟨z4,_⟩:=k9.cell 4 _ rfl
  obtain ⟨z5,_⟩:=k9.cell 5 _ rfl
  obtain ⟨z6,_⟩:=k9.cell 6 _ rfl
  obtain ⟨z7,_⟩:=k9.cell 7 _ rfl
  obtain ⟨z8,_⟩:=k9.cell 8 _ rfl
  exact bodyPost_ret (v:=.tuple #[.agg #[.slice none 0 0,.slice none 0 0,.slice none 0 0,.slice none 0 0,.slice none 0 0,.int .i64 0,.int .i64 0,.int .i64 0,.int .i64 0],.int .i64 1]) (by simp [results,Try.results22,go_sem,z0,z1,z2,z3,z4,z5,z6,z7,z8]) rfl ⟨zL,rfl,row5_z _ _,B9.out⟩
 rcases ho : openB b with _ | _
 ·have e1 : actC b k x = 5:=by unfold actC;rw [hv,ho];rfl
  have e2 : applyR b k x = zB:=by unfold applyR;rw [e1];rfl
  rw [codeB_shut hv ho] at KV
  rw [e1,e2]
  clear HC e1 e2 KH
  unfold bV chT chV at *
  go_enter Try.func22,Try.ntmps22
  go_wp2_with (first
    | (go_at_call 13;refine (KV.out _ BH.out.rd).mono ?_;rintro e w1 ⟨rfl,hb⟩;have bx:=bl_trans hb (bl_alloc (bl_refl w1) (.cells ([.bool c0,.int .i64 ca,.int .i64 le,.int .i64 mo] : List Value).toArray 30));have Ba:=Lib.hid (bl_trans B.out bx);have NAa:=Lib.hid (NA.out.below bx);have NRa:=Lib.hid (NR.out.below bx);have BHa:=Lib.hid (BH.out.below bx);have NC:=Lib.hid (blk_new w1 30 [.bool c0,.int .i64 ca,.int .i64 le,.int .i64 mo]);obtain ⟨p0,-⟩:=NAa.out.cell 0 _ rfl;obtain ⟨p1,-⟩:=NAa.out.cell 1 _ rfl;obtain ⟨r0,-⟩:=NC.out.cell 0 _ rfl;obtain ⟨r1,-⟩:=NC.out.cell 1 _ rfl;obtain ⟨r2,-⟩:=NC.out.cell 2 _ rfl;obtain ⟨r3,-⟩:=NC.out.cell 3 _ rfl;clear hb bx B NA NR BH)
    | ((with_reducible refine at_st 27 (.tmp 4) (.tmp 16) rfl ?_);(refine wpList_store_blk 27 9 rfl (.tmp 4) (.tmp 16) rfl iB (w.heap.size + 1 + 1) rfl [.slice none 0 0,.slice none 0 0,.slice none 0 0,.slice none 0 0,.slice none 0 0,.int .i64 0,.int .i64 0,.int .i64 0,.int .i64 0] rfl rfl (by simp [Value.oneCell']) _ NRa.out rfl ?_);intro w9 k9 g9;have B9:=Lib.hid (below_grown1 Ba.out g9 (by omega))))
  obtain ⟨z0,_⟩:=k9.cell 0 _ rfl
  obtain ⟨z1,_⟩:=k9.cell 1 _ rfl
  obtain ⟨z2,_⟩:=k9.cell 2 _ rfl
  obtain ⟨z3,_⟩:=k9.cell 3 _ rfl
  obtain ⟨z4,_⟩:=k9.cell 4 _ rfl
  obtain ⟨z5,_⟩:=k9.cell 5 _ rfl
  obtain ⟨z6,_⟩:=k9.cell 6 _ rfl
  obtain ⟨z7,_⟩:=k9.cell 7 _ rfl
  obtain ⟨z8,_⟩:=k9.cell 8 _ rfl
  exact bodyPost_ret (v:=.tuple #[.agg #[.slice none 0 0,.slice none 0 0,.slice none 0 0,.slice none 0 0,.slice none 0 0,.int .i64 0,.int .i64 0,.int .i64 0,.int .i64 0],.int .i64 5]) (by simp [results,Try.results22,go_sem,z0,z1,z2,z3,z4,z5,z6,z7,z8]) rfl ⟨zL,rfl,row5_z _ _,B9.out⟩
 rw [codeB_open hv ho] at KV
 have HL : legB b k x = legV c0 ca le mo k x:=by
  have q:=HC.out hv ho
  unfold chV at q
  simp at q
  obtain ⟨q1,q2,q3,q4⟩:=q
  rw [q1,q2,q3,q4];rfl
 rw [← HL] at KH
 clear HC HL hch
 rcases hl : legB b k x with _ | _
 ·have e1 : actC b k x = 2:=by unfold actC;rw [hv,ho,hl];rfl
  have e2 : applyR b k x = zB:=by unfold applyR;rw [e1];rfl
  rw [hl] at KH
  rw [e1,e2]
  clear e1 e2 hl hv ho
  unfold bV chT chV at *
  go_enter Try.func22,Try.ntmps22
  go_wp2_with (first
    | (go_at_call 13;refine (KV.out _ BH.out.rd).mono ?_;rintro e w1 ⟨rfl,hb⟩;have bx:=bl_trans hb (bl_alloc (bl_refl w1) (.cells ([.bool c0,.int .i64 ca,.int .i64 le,.int .i64 mo] : List Value).toArray 30));have Ba:=Lib.hid (bl_trans B.out bx);have NAa:=Lib.hid (NA.out.below bx);have NRa:=Lib.hid (NR.out.below bx);have BHa:=Lib.hid (BH.out.below bx);have NC:=Lib.hid (blk_new w1 30 [.bool c0,.int .i64 ca,.int .i64 le,.int .i64 mo]);obtain ⟨p0,-⟩:=NAa.out.cell 0 _ rfl;obtain ⟨p1,-⟩:=NAa.out.cell 1 _ rfl;obtain ⟨r0,-⟩:=NC.out.cell 0 _ rfl;obtain ⟨r1,-⟩:=NC.out.cell 1 _ rfl;obtain ⟨r2,-⟩:=NC.out.cell 2 _ rfl;obtain ⟨r3,-⟩:=NC.out.cell 3 _ rfl;clear hb bx B NA NR BH)
    | (go_at_call 83;refine (KH.out _).mono ?_;rintro e w2 ⟨rfl,hb⟩;have Bb:=Lib.hid (bl_trans Ba.out hb);have NAb:=Lib.hid (NAa.out.below hb);have NRb:=Lib.hid (NRa.out.below hb);have BHb:=Lib.hid (BHa.out.below hb);clear hb Ba NAa NRa BHa)
    | ((with_reducible refine at_st 27 (.tmp 4) (.tmp 22) rfl ?_);(refine wpList_store_blk 27 9 rfl (.tmp 4) (.tmp 22) rfl iB (w.heap.size + 1 + 1) rfl [.slice none 0 0,.slice none 0 0,.slice none 0 0,.slice none 0 0,.slice none 0 0,.int .i64 0,.int .i64 0,.int .i64 0,.int .i64 0] rfl rfl (by simp [Value.oneCell']) _ NRb.out rfl ?_);intro w9 k9 g9;have B9:=Lib.hid (below_grown1 Bb.out g9 (by omega))))
  obtain ⟨z0,_⟩:=k9.cell 0 _ rfl
  obtain ⟨z1,_⟩:=k9.cell 1 _ rfl
  obtain ⟨z2,_⟩:=k9.cell 2 _ rfl
  obtain ⟨z3,_⟩:=k9.cell 3 _ rfl
  obtain ⟨z4,_⟩:=k9.cell 4 _ rfl
  obtain ⟨z5,_⟩:=k9.cell 5 _ rfl
  obtain ⟨z6,_⟩:=k9.cell 6 _ rfl
  obtain ⟨z7,_⟩:=k9.cell 7 _ rfl
  obtain ⟨z8,_⟩:=k9.cell 8 _ rfl
  exact bodyPost_ret (v:=.tuple #[.agg #[.slice none 0 0,.slice none 0 0,.slice none 0 0,.slice none 0 0,.slice none 0 0,.int .i64 0,.int .i64 0,.int .i64 0,.int .i64 0],.int .i64 2]) (by simp [results,Try.results22,go_sem,z0,z1,z2,z3,z4,z5,z6,z7,z8]) rfl ⟨zL,rfl,row5_z _ _,B9.out⟩
 have e1 : actC b k x = 0:=by unfold actC;rw [hv,ho,hl];rfl
 have e2 : applyR b k x = appB b k x:=by unfold applyR;rw [e1];rfl
 have kk:=ok_of hv
 have hsd:=sd_act kk hl
 obtain ⟨i,hi⟩:=Int.eq_ofNat_of_zero_le kk.t0
 have hil : i < b.st.length:=by have:=kk.t1;omega
 have n6:=kk.n6
 have KCL:=Lib.hid (fun (g : Nat) (W : World) (hW : BtAt W g L b)=>cloneN_any g L b W hW kk.sm)
 have HK4 : k = 0 ∨ k = 1 ∨ k = 2 ∨ k = 3:=by rcases leg_cases hl with ⟨q,_⟩ | ⟨q,_⟩ | ⟨q,_⟩ | ⟨q,_⟩ <;> simp [q]
 rw [e1,e2]
 rw [hl] at KH
 clear e1 e2 hv ho
 rcases HK4 with rfl | rfl | rfl | rfl
 ·have KF : Hid (∀ (g : Nat) (M : At5) (W : World),NB W g M b → Calls Try.prog 144 #[.pointer (some ⟨g,0,none⟩),.int .i64 x] W (Did g M (actB b 0 x) W)):=Lib.hid (fun g M W hW=>fold_any g M b x W hW kk.sd kk.t0 kk.t1)
  obtain ⟨hd,hct,hcs,hca⟩:=hsd
  obtain ⟨c,ec⟩ : ∃ c : Bt,c = actB b 0 x:=⟨_,rfl⟩
  have HAP : Hid (appB b 0 x = { setAc c with tu:=nxtS (setAc c) (leftI (setAc c).tu (setAc c).st.length) }):=Lib.hid (by rw [ec];rfl)
  rw [← ec] at hd hct hcs hca KF
  rw [hi] at hct
  have HSA : Hid (setAc c = { c with ac:=c.ac.set i true }):=Lib.hid (by unfold setAc;rw [hct];rfl)
  obtain ⟨d,ed⟩ : ∃ d : Bt,d = { c with ac:=c.ac.set i true }:=⟨_,rfl⟩
  rw [HSA.out,← ed] at HAP hd
  have hdt : d.tu = (i : Int):=by rw [ed];exact hct
  have hds : d.st.length = b.st.length:=by rw [ed];exact hcs
  have HDT:=Lib.hid hdt
  have HCT:=Lib.hid hct
  have HED:=Lib.hid ed
  have hia : (i : Int) < c.ac.length:=by omega
  have hian : i < c.ac.length:=by omega
  have KS:=Lib.hid (fun (g : Nat) (M : At5) (W : World) (hW : NB W g M d)=>seatCountB_any g M d W hW.at_)
  have KL:=Lib.hid (fun W : World=>leftOf_any i d.st.length W (by omega) (by omega) (by omega) (by omega))
  have hlb:=left_bd (i : Int) (d.st.length : Int) (by omega)
  rw [hdt] at HAP
  have KP:=Lib.hid (fun (g : Nat) (M : At5) (W : World) (hW : NB W g M d)=>passTurn_any g M d (leftI i d.st.length) W hW hd hlb.1 hlb.2)
  clear ec ed hd hct hdt hlb hi kk hl hcs hca hds
  generalize leftI (i : Int) (d.st.length : Int) = s9 at *
  have hfl:=run_fieldR 143 144
  unfold bV chT chV at *
  go_enter Try.func22,Try.ntmps22
  go_wp2_with (first
    | (go_at_call 13;refine (KV.out _ BH.out.rd).mono ?_;rintro e w1 ⟨rfl,hb⟩;have bx:=bl_trans hb (bl_alloc (bl_refl w1) (.cells ([.bool c0,.int .i64 ca,.int .i64 le,.int .i64 mo] : List Value).toArray 30));have Ba:=Lib.hid (bl_trans B.out bx);have NAa:=Lib.hid (NA.out.below bx);have NRa:=Lib.hid (NR.out.below bx);have BHa:=Lib.hid (BH.out.below bx);have NC:=Lib.hid (blk_new w1 30 [.bool c0,.int .i64 ca,.int .i64 le,.int .i64 mo]);obtain ⟨p0,-⟩:=NAa.out.cell 0 _ rfl;obtain ⟨p1,-⟩:=NAa.out.cell 1 _ rfl;obtain ⟨r0,-⟩:=NC.out.cell 0 _ rfl;obtain ⟨r1,-⟩:=NC.out.cell 1 _ rfl;obtain ⟨r2,-⟩:=NC.out.cell 2 _ rfl;obtain ⟨r3,-⟩:=NC.out.cell 3 _ rfl;clear hb bx B NA NR BH)
    | (go_at_call 83;refine (KH.out _).mono ?_;rintro e w2 ⟨rfl,hb⟩;have Bb:=Lib.hid (bl_trans Ba.out hb);have NAb:=Lib.hid (NAa.out.below hb);have NRb:=Lib.hid (NRa.out.below hb);have BHb:=Lib.hid (BHa.out.below hb);clear hb Ba NAa NRa BHa)
    | (go_at_call 85;refine (KCL.out _ _ BHb.out).mono ?_;rintro e w6 ⟨g8,M,rfl,hg8,hn,hb⟩;have HN6:=Lib.hid hn;have hgn:=Bb.out.size;have B6:=Lib.hid (bl_trans Bb.out hb);have NA6:=Lib.hid (NAb.out.below hb);have NR6:=Lib.hid (NRb.out.below hb);have G8 : Hid (w.heap.size + 1 + 1 < g8):=Lib.hid (Nat.lt_of_lt_of_le NRb.out.lt hg8);clear hn hb Bb NAb NRb BHb hg8 hgn))
  refine wp_region_W (last:=8) (k:=8) hmx rfl (fun HC0=>?_)
  refine wpAnyR_takeL (i:=1) (kw:=4) (v:=.pointer (some ⟨w.heap.size + 1,0,none⟩)) (fun _=>bl_refl _) (fun p q=>bl_trans p q) rfl rfl (by kernel_rfl) (by kernel_rfl) (by kernel_rfl) (by kernel_rfl) (fun _ _ _ h=>h) HC0 (Or.inl ⟨by kernel_rfl,fun W' hI=>?_⟩) (fun HC1=>?_)
  ·exact .inl (by go_simp)
  refine wpAnyR_takeL (i:=2) (kw:=3) (v:=.int .i64 0) (fun _=>bl_refl _) (fun p q=>bl_trans p q) rfl rfl (by kernel_rfl) (by kernel_rfl) (by kernel_rfl) (by kernel_rfl) (fun _ _ _ h=>h) HC1 (Or.inl ⟨by kernel_rfl,fun W' hI=>?_⟩) (fun HC2=>?_)
  ·have hv:=(NA6.out).below hI
   obtain ⟨z0,_⟩:=hv.cell 0 _ rfl
   exact .inl (by go_simp)
  refine wpAnyR_takeL (i:=5) (kw:=1) (v:=.pointer (some ⟨g8,0,none⟩)) (fun _=>bl_refl _) (fun p q=>bl_trans p q) rfl rfl (by kernel_rfl) (by kernel_rfl) (by kernel_rfl) (by kernel_rfl) (fun _ _ _ h=>h) HC2 (Or.inl ⟨by kernel_rfl,fun W' hI=>?_⟩) (fun HC3=>?_)
  ·exact .inl (by go_simp)
  refine wpAnyR_takeL (i:=6) (kw:=2) (v:=.pointer (some ⟨w.heap.size + 1,1,none⟩)) (fun _=>bl_refl _) (fun p q=>bl_trans p q) rfl rfl (by kernel_rfl) (by kernel_rfl) (by kernel_rfl) (by kernel_rfl) (fun _ _ _ h=>h) HC3 (Or.inl ⟨by kernel_rfl,fun W' hI=>?_⟩) (fun HC4=>?_)
  ·exact .inl (by go_simp)
  refine wpAnyR_takeL (i:=7) (kw:=1) (v:=.int .i64 x) (fun _=>bl_refl _) (fun p q=>bl_trans p q) rfl rfl (by kernel_rfl) (by kernel_rfl) (by kernel_rfl) (by kernel_rfl) (fun _ _ _ h=>h) HC4 (Or.inl ⟨by kernel_rfl,fun W' hI=>?_⟩) (fun HC5=>?_)
  ·have hv:=(NA6.out).below hI
   obtain ⟨z1,_⟩:=hv.cell 1 _ rfl
   exact .inl (by go_simp)
  refine wpAnyR_oneL HC5 (i:=0) (by kernel_rfl) rfl (by kernel_rfl) (fun w4 hr4=>⟨bl_drewT hr4,?_⟩)
  intro K hK
  have B4:=Lib.hid (bl_drewT hr4)
  clear hr4
  go_simp
  go_wp2_with (go_at_call 86;refine (actionRules_any _).mono ?_;rintro e w5 ⟨gm,rfl,hgl,hm,hb⟩;have M5:=Lib.hid hm;have B5:=Lib.hid (bl_trans B4.out hb);clear hgl hm hb B4)
  intro HC6
  refine wpAnyR_oneL HC6 (i:=3) (by kernel_rfl) rfl (by kernel_rfl) (fun w7 hr7=>⟨bl_trans B5.out hr7,?_⟩)
  intro K hK
  have B7:=Lib.hid (bl_trans B5.out hr7)
  have hm7 : w7.heap[gm]? = some (.map (rulE 4) 4):=(hr7.block gm (Array.getElem?_eq_some_iff.1 M5.out).1).trans M5.out
  have hlk : (Instr.lookup 100 (.map (some gm)) (.int .i64 (0 : Int)) false).run Try.prog w7 = .ok (.agg #[.func (.func 143) #[] #[],.func (.func 144) #[] #[]]) w7:=run_lookR 0 (by omega) hm7 false
  clear hr7 hm7 M5 B5
  go_simp
  refine hK _ _ (fun HC7=>?_)
  clear hK K
  refine wpAnyR_oneL HC7 (i:=4) (by kernel_rfl) rfl (by kernel_rfl) (fun w8 hr8=>⟨bl_trans B7.out hr8,?_⟩)
  intro K hK
  have B8:=Lib.hid (bl_trans B7.out hr8)
  clear hr8 hlk
  go_simp
  refine hK _ _ (fun HC8=>?_)
  clear hK K
  refine wpAnyR_lastL (by kernel_rfl) (by kernel_rfl) rfl (by kernel_rfl) (fun wR hrR=>⟨bl_trans B8.out hrR,?_⟩)
  intro K hK
  have BR:=Lib.hid (bl_trans B8.out hrR)
  clear hrR
  go_simp
  go_wp2_with (go_at_call 144;refine (KF.out _ _ _ (HN6.out.below BR.out)).mono ?_;rintro e w9 ⟨rfl,hn,hf⟩;have N9:=Lib.hid hn;have F9:=Lib.hid ((Frm.of_below BR.out).trans hf);clear hn hf)
  obtain ⟨b5,o5,e5,-⟩:=N9.out.rows.r5.rd.at_0 i hian
  have E5:=Lib.hid e5
  have HN9 : Hid (Blk w9 g8 27 [.slice M.a1 c.st.length M.c1,.slice M.a2 c.bt.length M.c2,.slice M.a3 c.pd.length M.c3,.slice M.a4 c.fo.length M.c4,.slice (some ⟨b5,o5,none⟩) c.ac.length M.c5,.int .i64 i,.int .i64 c.un,.int .i64 c.ra,.int .i64 c.li]):=Lib.hid (by have q:=N9.out.blk;unfold btL at q;rw [e5,HCT.out] at q;exact q)
  clear e5
  refine wp_region_W (last:=9) (k:=9) hmx rfl (fun HD0=>?_)
  refine wpAnyR_takeL (i:=0) (kw:=5) (v:=.pointer (some ⟨g8,0,none⟩)) (fun _=>bl_refl _) (fun p q=>bl_trans p q) rfl rfl (by kernel_rfl) (by kernel_rfl) (by kernel_rfl) (by kernel_rfl) (fun _ _ _ h=>h) HD0 (Or.inl ⟨by kernel_rfl,fun W' hI=>?_⟩) (fun HD1=>?_)
  ·exact .inl (by go_simp)
  refine wpAnyR_takeL (i:=1) (kw:=4) (v:=.pointer (some ⟨g8,0,none⟩)) (fun _=>bl_refl _) (fun p q=>bl_trans p q) rfl rfl (by kernel_rfl) (by kernel_rfl) (by kernel_rfl) (by kernel_rfl) (fun _ _ _ h=>h) HD1 (Or.inl ⟨by kernel_rfl,fun W' hI=>?_⟩) (fun HD2=>?_)
  ·exact .inl (by go_simp)
  refine wpAnyR_takeL (i:=2) (kw:=3) (v:=.pointer (some ⟨g8,4,none⟩)) (fun _=>bl_refl _) (fun p q=>bl_trans p q) rfl rfl (by kernel_rfl) (by kernel_rfl) (by kernel_rfl) (by kernel_rfl) (fun _ _ _ h=>h) HD2 (Or.inl ⟨by kernel_rfl,fun W' hI=>?_⟩) (fun HD3=>?_)
  ·exact .inl (by go_simp)
  refine wpAnyR_takeL (i:=3) (kw:=2) (v:=.slice (some ⟨b5,o5,none⟩) c.ac.length M.c5) (fun _=>bl_refl _) (fun p q=>bl_trans p q) rfl rfl (by kernel_rfl) (by kernel_rfl) (by kernel_rfl) (by kernel_rfl) (fun _ _ _ h=>h) HD3 (Or.inl ⟨by kernel_rfl,fun W' hI=>?_⟩) (fun HD4=>?_)
  ·have hv:=(HN9.out).below hI
   obtain ⟨z4,_⟩:=hv.cell 4 _ rfl
   exact .inl (by go_simp)
  refine wpAnyR_takeL (i:=4) (kw:=5) (v:=.pointer (some ⟨g8,0,none⟩)) (fun _=>bl_refl _) (fun p q=>bl_trans p q) rfl rfl (by kernel_rfl) (by kernel_rfl) (by kernel_rfl) (by kernel_rfl) (fun _ _ _ h=>h) HD4 (Or.inl ⟨by kernel_rfl,fun W' hI=>?_⟩) (fun HD5=>?_)
  ·exact .inl (by go_simp)
  refine wpAnyR_takeL (i:=5) (kw:=4) (v:=.pointer (some ⟨g8,0,none⟩)) (fun _=>bl_refl _) (fun p q=>bl_trans p q) rfl rfl (by kernel_rfl) (by kernel_rfl) (by kernel_rfl) (by kernel_rfl) (fun _ _ _ h=>h) HD5 (Or.inl ⟨by kernel_rfl,fun W' hI=>?_⟩) (fun HD6=>?_)
  ·exact .inl (by go_simp)
  refine wpAnyR_takeL (i:=6) (kw:=3) (v:=.pointer (some ⟨g8,5,none⟩)) (fun _=>bl_refl _) (fun p q=>bl_trans p q) rfl rfl (by kernel_rfl) (by kernel_rfl) (by kernel_rfl) (by kernel_rfl) (fun _ _ _ h=>h) HD6 (Or.inl ⟨by kernel_rfl,fun W' hI=>?_⟩) (fun HD7=>?_)
  ·exact .inl (by go_simp)
  refine wpAnyR_takeL (i:=7) (kw:=2) (v:=.int .i64 i) (fun _=>bl_refl _) (fun p q=>bl_trans p q) rfl rfl (by kernel_rfl) (by kernel_rfl) (by kernel_rfl) (by kernel_rfl) (fun _ _ _ h=>h) HD7 (Or.inl ⟨by kernel_rfl,fun W' hI=>?_⟩) (fun HD8=>?_)
  ·have hv:=(HN9.out).below hI
   obtain ⟨z5,_⟩:=hv.cell 5 _ rfl
   exact .inl (by go_simp)
  refine wpAnyR_takeL (i:=8) (kw:=1) (v:=.pointer (some ⟨b5,o5 + i,none⟩)) (fun _=>bl_refl _) (fun p q=>bl_trans p q) rfl rfl (by kernel_rfl) (by kernel_rfl) (by kernel_rfl) (by kernel_rfl) (fun _ _ _ h=>h) HD8 (Or.inl ⟨by kernel_rfl,fun W' hI=>?_⟩) (fun HD9=>?_)
  ·exact .inl (by go_simp)
  refine wpAnyR_lastL (by kernel_rfl) (by kernel_rfl) rfl (by kernel_rfl) (fun wS hrR=>⟨bl_drewT hrR,?_⟩)
  intro K hK
  have BR:=Lib.hid (bl_drewT hrR)
  clear hrR
  have NW:=Lib.hid (N9.out.below BR.out)
  have FW:=Lib.hid (F9.out.trans (Frm.of_below BR.out))
  have r5:=NW.out.rows.r5
  rw [E5.out] at r5
  have c4:=(r5.cellAt i hian).1
  have f4:=(r5.cellAt i hian).2
  clear r5
  go_simp
  refine hK _ _ ?_
  clear hK K
  obtain ⟨s1,s2⟩:=NW.out.setAc E5.out i hian true
  rw [← HED.out] at s1
  clear c4 f4
  generalize wS.setCell ⟨b5,o5 + i,none⟩ (.bool true) = w10 at *
  have N10:=Lib.hid s1
  have F10:=Lib.hid (FW.out.trans s2)
  have HN10 : Hid (Blk w10 g8 27 [.slice M.a1 d.st.length M.c1,.slice M.a2 d.bt.length M.c2,.slice M.a3 d.pd.length M.c3,.slice M.a4 d.fo.length M.c4,.slice M.a5 d.ac.length M.c5,.int .i64 i,.int .i64 d.un,.int .i64 d.ra,.int .i64 d.li]):=Lib.hid (by have q:=s1.blk;unfold btL at q;rw [HDT.out] at q;exact q)
  clear s1 s2 HN9 N9 F9 NW FW
  go_wp2_with fail
  refine wp_region_W (last:=8) (k:=8) hmx rfl (fun HE0=>?_)
  refine wpAnyR_takeL (i:=0) (kw:=1) (v:=.pointer (some ⟨g8,0,none⟩)) (fun _=>bl_refl _) (fun p q=>bl_trans p q) rfl rfl (by kernel_rfl) (by kernel_rfl) (by kernel_rfl) (by kernel_rfl) (fun _ _ _ h=>h) HE0 (Or.inl ⟨by kernel_rfl,fun W' hI=>?_⟩) (fun HE1=>?_)
  ·exact .inl (by go_simp)
  refine wpAnyR_takeL (i:=1) (kw:=5) (v:=.pointer (some ⟨g8,0,none⟩)) (fun _=>bl_refl _) (fun p q=>bl_trans p q) rfl rfl (by kernel_rfl) (by kernel_rfl) (by kernel_rfl) (by kernel_rfl) (fun _ _ _ h=>h) HE1 (Or.inl ⟨by kernel_rfl,fun W' hI=>?_⟩) (fun HE2=>?_)
  ·exact .inl (by go_simp)
  refine wpAnyR_takeL (i:=2) (kw:=4) (v:=.pointer (some ⟨g8,0,none⟩)) (fun _=>bl_refl _) (fun p q=>bl_trans p q) rfl rfl (by kernel_rfl) (by kernel_rfl) (by kernel_rfl) (by kernel_rfl) (fun _ _ _ h=>h) HE2 (Or.inl ⟨by kernel_rfl,fun W' hI=>?_⟩) (fun HE3=>?_)
  ·exact .inl (by go_simp)
  refine wpAnyR_takeL (i:=3) (kw:=3) (v:=.pointer (some ⟨g8,5,none⟩)) (fun _=>bl_refl _) (fun p q=>bl_trans p q) rfl rfl (by kernel_rfl) (by kernel_rfl) (by kernel_rfl) (by kernel_rfl) (fun _ _ _ h=>h) HE3 (Or.inl ⟨by kernel_rfl,fun W' hI=>?_⟩) (fun HE4=>?_)
  ·exact .inl (by go_simp)
  refine wpAnyR_takeL (i:=4) (kw:=2) (v:=.int .i64 i) (fun _=>bl_refl _) (fun p q=>bl_trans p q) rfl rfl (by kernel_rfl) (by kernel_rfl) (by kernel_rfl) (by kernel_rfl) (fun _ _ _ h=>h) HE4 (Or.inl ⟨by kernel_rfl,fun W' hI=>?_⟩) (fun HE5=>?_)
  ·have hv:=(HN10.out).below hI
   obtain ⟨z5,_⟩:=hv.cell 5 _ rfl
   exact .inl (by go_simp)
  refine wpAnyR_takeL (i:=5) (kw:=3) (v:=.pointer (some ⟨g8,0,none⟩)) (fun _=>bl_refl _) (fun p q=>bl_trans p q) rfl rfl (by kernel_rfl) (by kernel_rfl) (by kernel_rfl) (by kernel_rfl) (fun _ _ _ h=>h) HE5 (Or.inl ⟨by kernel_rfl,fun W' hI=>?_⟩) (fun HE6=>?_)
  ·exact .inl (by go_simp)
  refine wpAnyR_takeL (i:=6) (kw:=2) (v:=.int .i64 d.st.length) (fun _=>bl_refl _) (fun p q=>bl_trans p q) rfl rfl (by kernel_rfl) (by kernel_rfl) (by kernel_rfl) (by kernel_rfl) (fun _ _ _ h=>h) HE6 (Or.inl ⟨by kernel_rfl,fun W' hI=>?_⟩) (fun HE7=>?_)
  ·exact .inr ⟨89,#[.pointer (some ⟨g8,0,none⟩)],by go_simp,(KS.out _ _ W' (N10.out.below hI)).mono fun e w' h=>⟨h.1,by rw [← h.2];exact bl_refl _⟩⟩
  refine wpAnyR_takeL (i:=7) (kw:=1) (v:=.int .i64 s9) (fun _=>bl_refl _) (fun p q=>bl_trans p q) rfl rfl (by kernel_rfl) (by kernel_rfl) (by kernel_rfl) (by kernel_rfl) (fun _ _ _ h=>h) HE7 (Or.inl ⟨by kernel_rfl,fun W' hI=>?_⟩) (fun HE8=>?_)
  ·exact .inr ⟨88,#[.int .i64 i,.int .i64 d.st.length],by go_simp,(KL.out W').mono fun e w' h=>⟨h.1,by rw [← h.2];exact bl_refl _⟩⟩
  refine wpAnyR_lastL (by kernel_rfl) (by kernel_rfl) rfl (by kernel_rfl) (fun wT hrR=>⟨bl_drewT hrR,?_⟩)
  intro K hK
  have BR:=Lib.hid (bl_drewT hrR)
  clear hrR
  go_simp
  go_wp2_with (first
    | (go_at_call 87;refine (KP.out _ _ _ (N10.out.below BR.out)).mono ?_;rintro e w11 ⟨rfl,hn,hf⟩;have N11:=Lib.hid hn;have F11:=Lib.hid ((F10.out.trans (Frm.of_below BR.out)).trans hf);have NR11:=Lib.hid (NR6.out.span F11.out (.inl G8.out));have B11:=Lib.hid (bl_frm B6.out F11.out (by have:=G8.out;omega));clear hn hf;obtain ⟨y0,-⟩:=N11.out.blk.cell 0 _ rfl;obtain ⟨y1,-⟩:=N11.out.blk.cell 1 _ rfl;obtain ⟨y2,-⟩:=N11.out.blk.cell 2 _ rfl;obtain ⟨y3,-⟩:=N11.out.blk.cell 3 _ rfl;obtain ⟨y4,-⟩:=N11.out.blk.cell 4 _ rfl;obtain ⟨y5,-⟩:=N11.out.blk.cell 5 _ rfl;obtain ⟨y6,-⟩:=N11.out.blk.cell 6 _ rfl;obtain ⟨y7,-⟩:=N11.out.blk.cell 7 _ rfl;obtain ⟨y8,-⟩:=N11.out.blk.cell 8 _ rfl)
    | ((with_reducible refine at_st 27 (.tmp 4) (.tmp 53) rfl ?_);(refine wpList_store_blk 27 9 rfl (.tmp 4) (.tmp 53) rfl iB (w.heap.size + 1 + 1) rfl [.slice M.a1 d.st.length M.c1,.slice M.a2 d.bt.length M.c2,.slice M.a3 d.pd.length M.c3,.slice M.a4 d.fo.length M.c4,.slice M.a5 d.ac.length M.c5,.int .i64 (nxtS d s9),.int .i64 d.un,.int .i64 d.ra,.int .i64 d.li] rfl rfl (by simp [Value.oneCell']) _ NR11.out rfl ?_);intro w12 k9 g9;have B12:=Lib.hid (below_grown1 B11.out g9 (by omega));have R12:=Lib.hid (N11.out.rows.grownB g9 (by have:=G8.out;omega))))
  obtain ⟨z0,_⟩:=k9.cell 0 _ rfl
  obtain ⟨z1,_⟩:=k9.cell 1 _ rfl
  obtain ⟨z2,_⟩:=k9.cell 2 _ rfl
  obtain ⟨z3,_⟩:=k9.cell 3 _ rfl
  obtain ⟨z4,_⟩:=k9.cell 4 _ rfl
  obtain ⟨z5,_⟩:=k9.cell 5 _ rfl
  obtain ⟨z6,_⟩:=k9.cell 6 _ rfl
  obtain ⟨z7,_⟩:=k9.cell 7 _ rfl
  obtain ⟨z8,_⟩:=k9.cell 8 _ rfl
  exact bodyPost_ret (v:=.tuple #[.agg #[.slice M.a1 d.st.length M.c1,.slice M.a2 d.bt.length M.c2,.slice M.a3 d.pd.length M.c3,.slice M.a4 d.fo.length M.c4,.slice M.a5 d.ac.length M.c5,.int .i64 (nxtS d s9),.int .i64 d.un,.int .i64 d.ra,.int .i64 d.li],.int .i64 0]) (by simp [results,Try.results22,go_sem,z0,z1,z2,z3,z4,z5,z6,z7,z8]) rfl ⟨M,by rw [HAP.out];rfl,by rw [HAP.out];exact R12.out.less (by have:=G8.out;omega),B12.out⟩
 ·have KF : Hid (∀ (g : Nat) (M : At5) (W : World),NB W g M b → Calls Try.prog 146 #[.pointer (some ⟨g,0,none⟩),.int .i64 x] W (Did g M (actB b 1 x) W)):=Lib.hid (fun g M W hW=>check_any g M b x W hW)
  obtain ⟨hd,hct,hcs,hca⟩:=hsd
  obtain ⟨c,ec⟩ : ∃ c : Bt,c = actB b 1 x:=⟨_,rfl⟩
  have HAP : Hid (appB b 1 x = { setAc c with tu:=nxtS (setAc c) (leftI (setAc c).tu (setAc c).st.length) }):=Lib.hid (by rw [ec];rfl)
  rw [← ec] at hd hct hcs hca KF
  rw [hi] at hct
  have HSA : Hid (setAc c = { c with ac:=c.ac.set i true }):=Lib.hid (by unfold setAc;rw [hct];rfl)
  obtain ⟨d,ed⟩ : ∃ d : Bt,d = { c with ac:=c.ac.set i true }:=⟨_,rfl⟩
  rw [HSA.out,← ed] at HAP hd
  have hdt : d.tu = (i : Int):=by rw [ed];exact hct
  have hds : d.st.length = b.st.length:=by rw [ed];exact hcs
  have HDT:=Lib.hid hdt
  have HCT:=Lib.hid hct
  have HED:=Lib.hid ed
  have hia : (i : Int) < c.ac.length:=by omega
  have hian : i < c.ac.length:=by omega
  have KS:=Lib.hid (fun (g : Nat) (M : At5) (W : World) (hW : NB W g M d)=>seatCountB_any g M d W hW.at_)
  have KL:=Lib.hid (fun W : World=>leftOf_any i d.st.length W (by omega) (by omega) (by omega) (by omega))
  have hlb:=left_bd (i : Int) (d.st.length : Int) (by omega)
  rw [hdt] at HAP
  have KP:=Lib.hid (fun (g : Nat) (M : At5) (W : World) (hW : NB W g M d)=>passTurn_any g M d (leftI i d.st.length) W hW hd hlb.1 hlb.2)
  clear ec ed hd hct hdt hlb hi kk hl hcs hca hds
  generalize leftI (i : Int) (d.st.length : Int) = s9 at *
  have hfl:=run_fieldR 145 146
  unfold bV chT chV at *
  go_enter Try.func22,Try.ntmps22
  go_wp2_with (first
    | (go_at_call 13;refine (KV.out _ BH.out.rd).mono ?_;rintro e w1 ⟨rfl,hb⟩;have bx:=bl_trans hb (bl_alloc (bl_refl w1) (.cells ([.bool c0,.int .i64 ca,.int .i64 le,.int .i64 mo] : List Value).toArray 30));have Ba:=Lib.hid (bl_trans B.out bx);have NAa:=Lib.hid (NA.out.below bx);have NRa:=Lib.hid (NR.out.below bx);have BHa:=Lib.hid (BH.out.below bx);have NC:=Lib.hid (blk_new w1 30 [.bool c0,.int .i64 ca,.int .i64 le,.int .i64 mo]);obtain ⟨p0,-⟩:=NAa.out.cell 0 _ rfl;obtain ⟨p1,-⟩:=NAa.out.cell 1 _ rfl;obtain ⟨r0,-⟩:=NC.out.cell 0 _ rfl;obtain ⟨r1,-⟩:=NC.out.cell 1 _ rfl;obtain ⟨r2,-⟩:=NC.out.cell 2 _ rfl;obtain ⟨r3,-⟩:=NC.out.cell 3 _ rfl;clear hb bx B NA NR BH)
    | (go_at_call 83;refine (KH.out _).mono ?_;rintro e w2 ⟨rfl,hb⟩;have Bb:=Lib.hid (bl_trans Ba.out hb);have NAb:=Lib.hid (NAa.out.below hb);have NRb:=Lib.hid (NRa.out.below hb);have BHb:=Lib.hid (BHa.out.below hb);clear hb Ba NAa NRa BHa)
    | (go_at_call 85;refine (KCL.out _ _ BHb.out).mono ?_;rintro e w6 ⟨g8,M,rfl,hg8,hn,hb⟩;have HN6:=Lib.hid hn;have hgn:=Bb.out.size;have B6:=Lib.hid (bl_trans Bb.out hb);have NA6:=Lib.hid (NAb.out.below hb);have NR6:=Lib.hid (NRb.out.below hb);have G8 : Hid (w.heap.size + 1 + 1 < g8):=Lib.hid (Nat.lt_of_lt_of_le NRb.out.lt hg8);clear hn hb Bb NAb NRb BHb hg8 hgn))
  refine wp_region_W (last:=8) (k:=8) hmx rfl (fun HC0=>?_)
  refine wpAnyR_takeL (i:=1) (kw:=4) (v:=.pointer (some ⟨w.heap.size + 1,0,none⟩)) (fun _=>bl_refl _) (fun p q=>bl_trans p q) rfl rfl (by kernel_rfl) (by kernel_rfl) (by kernel_rfl) (by kernel_rfl) (fun _ _ _ h=>h) HC0 (Or.inl ⟨by kernel_rfl,fun W' hI=>?_⟩) (fun HC1=>?_)
  ·exact .inl (by go_simp)
  refine wpAnyR_takeL (i:=2) (kw:=3) (v:=.int .i64 1) (fun _=>bl_refl _) (fun p q=>bl_trans p q) rfl rfl (by kernel_rfl) (by kernel_rfl) (by kernel_rfl) (by kernel_rfl) (fun _ _ _ h=>h) HC1 (Or.inl ⟨by kernel_rfl,fun W' hI=>?_⟩) (fun HC2=>?_)
  ·have hv:=(NA6.out).below hI
   obtain ⟨z0,_⟩:=hv.cell 0 _ rfl
   exact .inl (by go_simp)
  refine wpAnyR_takeL (i:=5) (kw:=1) (v:=.pointer (some ⟨g8,0,none⟩)) (fun _=>bl_refl _) (fun p q=>bl_trans p q) rfl rfl (by kernel_rfl) (by kernel_rfl) (by kernel_rfl) (by kernel_rfl) (fun _ _ _ h=>h) HC2 (Or.inl ⟨by kernel_rfl,fun W' hI=>?_⟩) (fun HC3=>?_)
  ·exact .inl (by go_simp)
  refine wpAnyR_takeL (i:=6) (kw:=2) (v:=.pointer (some ⟨w.heap.size + 1,1,none⟩)) (fun _=>bl_refl _) (fun p q=>bl_trans p q) rfl rfl (by kernel_rfl) (by kernel_rfl) (by kernel_rfl) (by kernel_rfl) (fun _ _ _ h=>h) HC3 (Or.inl ⟨by kernel_rfl,fun W' hI=>?_⟩) (fun HC4=>?_)
  ·exact .inl (by go_simp)
  refine wpAnyR_takeL (i:=7) (kw:=1) (v:=.int .i64 x) (fun _=>bl_refl _) (fun p q=>bl_trans p q) rfl rfl (by kernel_rfl) (by kernel_rfl) (by kernel_rfl) (by kernel_rfl) (fun _ _ _ h=>h) HC4 (Or.inl ⟨by kernel_rfl,fun W' hI=>?_⟩) (fun HC5=>?_)
  ·have hv:=(NA6.out).below hI
   obtain ⟨z1,_⟩:=hv.cell 1 _ rfl
   exact .inl (by go_simp)
  refine wpAnyR_oneL HC5 (i:=0) (by kernel_rfl) rfl (by kernel_rfl) (fun w4 hr4=>⟨bl_drewT hr4,?_⟩)
  intro K hK
  have B4:=Lib.hid (bl_drewT hr4)
  clear hr4
  go_simp
  go_wp2_with (go_at_call 86;refine (actionRules_any _).mono ?_;rintro e w5 ⟨gm,rfl,hgl,hm,hb⟩;have M5:=Lib.hid hm;have B5:=Lib.hid (bl_trans B4.out hb);clear hgl hm hb B4)
  intro HC6
  refine wpAnyR_oneL HC6 (i:=3) (by kernel_rfl) rfl (by kernel_rfl) (fun w7 hr7=>⟨bl_trans B5.out hr7,?_⟩)
  intro K hK
  have B7:=Lib.hid (bl_trans B5.out hr7)
  have hm7 : w7.heap[gm]? = some (.map (rulE 4) 4):=(hr7.block gm (Array.getElem?_eq_some_iff.1 M5.out).1).trans M5.out
  have hlk : (Instr.lookup 100 (.map (some gm)) (.int .i64 (1 : Int)) false).run Try.prog w7 = .ok (.agg #[.func (.func 145) #[] #[],.func (.func 146) #[] #[]]) w7:=run_lookR 1 (by omega) hm7 false
  clear hr7 hm7 M5 B5
  go_simp
  refine hK _ _ (fun HC7=>?_)
  clear hK K
  refine wpAnyR_oneL HC7 (i:=4) (by kernel_rfl) rfl (by kernel_rfl) (fun w8 hr8=>⟨bl_trans B7.out hr8,?_⟩)
  intro K hK
  have B8:=Lib.hid (bl_trans B7.out hr8)
  clear hr8 hlk
  go_simp
  refine hK _ _ (fun HC8=>?_)
  clear hK K
  refine wpAnyR_lastL (by kernel_rfl) (by kernel_rfl) rfl (by kernel_rfl) (fun wR hrR=>⟨bl_trans B8.out hrR,?_⟩)
  intro K hK
  have BR:=Lib.hid (bl_trans B8.out hrR)
  clear hrR
  go_simp
  go_wp2_with (go_at_call 146;refine (KF.out _ _ _ (HN6.out.below BR.out)).mono ?_;rintro e w9 ⟨rfl,hn,hf⟩;have N9:=Lib.hid hn;have F9:=Lib.hid ((Frm.of_below BR.out).trans hf);clear hn hf)
  obtain ⟨b5,o5,e5,-⟩:=N9.out.rows.r5.rd.at_0 i hian
  have E5:=Lib.hid e5
  have HN9 : Hid (Blk w9 g8 27 [.slice M.a1 c.st.length M.c1,.slice M.a2 c.bt.length M.c2,.slice M.a3 c.pd.length M.c3,.slice M.a4 c.fo.length M.c4,.slice (some ⟨b5,o5,none⟩) c.ac.length M.c5,.int .i64 i,.int .i64 c.un,.int .i64 c.ra,.int .i64 c.li]):=Lib.hid (by have q:=N9.out.blk;unfold btL at q;rw [e5,HCT.out] at q;exact q)
  clear e5
  refine wp_region_W (last:=9) (k:=9) hmx rfl (fun HD0=>?_)
  refine wpAnyR_takeL (i:=0) (kw:=5) (v:=.pointer (some ⟨g8,0,none⟩)) (fun _=>bl_refl _) (fun p q=>bl_trans p q) rfl rfl (by kernel_rfl) (by kernel_rfl) (by kernel_rfl) (by kernel_rfl) (fun _ _ _ h=>h) HD0 (Or.inl ⟨by kernel_rfl,fun W' hI=>?_⟩) (fun HD1=>?_)
  ·exact .inl (by go_simp)
  refine wpAnyR_takeL (i:=1) (kw:=4) (v:=.pointer (some ⟨g8,0,none⟩)) (fun _=>bl_refl _) (fun p q=>bl_trans p q) rfl rfl (by kernel_rfl) (by kernel_rfl) (by kernel_rfl) (by kernel_rfl) (fun _ _ _ h=>h) HD1 (Or.inl ⟨by kernel_rfl,fun W' hI=>?_⟩) (fun HD2=>?_)
  ·exact .inl (by go_simp)
  refine wpAnyR_takeL (i:=2) (kw:=3) (v:=.pointer (some ⟨g8,4,none⟩)) (fun _=>bl_refl _) (fun p q=>bl_trans p q) rfl rfl (by kernel_rfl) (by kernel_rfl) (by kernel_rfl) (by kernel_rfl) (fun _ _ _ h=>h) HD2 (Or.inl ⟨by kernel_rfl,fun W' hI=>?_⟩) (fun HD3=>?_)
  ·exact .inl (by go_simp)
  refine wpAnyR_takeL (i:=3) (kw:=2) (v:=.slice (some ⟨b5,o5,none⟩) c.ac.length M.c5) (fun _=>bl_refl _) (fun p q=>bl_trans p q) rfl rfl (by kernel_rfl) (by kernel_rfl) (by kernel_rfl) (by kernel_rfl) (fun _ _ _ h=>h) HD3 (Or.inl ⟨by kernel_rfl,fun W' hI=>?_⟩) (fun HD4=>?_)
  ·have hv:=(HN9.out).below hI
   obtain ⟨z4,_⟩:=hv.cell 4 _ rfl
   exact .inl (by go_simp)
  refine wpAnyR_takeL (i:=4) (kw:=5) (v:=.pointer (some ⟨g8,0,none⟩)) (fun _=>bl_refl _) (fun p q=>bl_trans p q) rfl rfl (by kernel_rfl) (by kernel_rfl) (by kernel_rfl) (by kernel_rfl) (fun _ _ _ h=>h) HD4 (Or.inl ⟨by kernel_rfl,fun W' hI=>?_⟩) (fun HD5=>?_)
  ·exact .inl (by go_simp)
  refine wpAnyR_takeL (i:=5) (kw:=4) (v:=.pointer (some ⟨g8,0,none⟩)) (fun _=>bl_refl _) (fun p q=>bl_trans p q) rfl rfl (by kernel_rfl) (by kernel_rfl) (by kernel_rfl) (by kernel_rfl) (fun _ _ _ h=>h) HD5 (Or.inl ⟨by kernel_rfl,fun W' hI=>?_⟩) (fun HD6=>?_)
  ·exact .inl (by go_simp)
  refine wpAnyR_takeL (i:=6) (kw:=3) (v:=.pointer (some ⟨g8,5,none⟩)) (fun _=>bl_refl _) (fun p q=>bl_trans p q) rfl rfl (by kernel_rfl) (by kernel_rfl) (by kernel_rfl) (by kernel_rfl) (fun _ _ _ h=>h) HD6 (Or.inl ⟨by kernel_rfl,fun W' hI=>?_⟩) (fun HD7=>?_)
  ·exact .inl (by go_simp)
  refine wpAnyR_takeL (i:=7) (kw:=2) (v:=.int .i64 i) (fun _=>bl_refl _) (fun p q=>bl_trans p q) rfl rfl (by kernel_rfl) (by kernel_rfl) (by kernel_rfl) (by kernel_rfl) (fun _ _ _ h=>h) HD7 (Or.inl ⟨by kernel_rfl,fun W' hI=>?_⟩) (fun HD8=>?_)
  ·have hv:=(HN9.out).below hI
   obtain ⟨z5,_⟩:=hv.cell 5 _ rfl
   exact .inl (by go_simp)
  refine wpAnyR_takeL (i:=8) (kw:=1) (v:=.pointer (some ⟨b5,o5 + i,none⟩)) (fun _=>bl_refl _) (fun p q=>bl_trans p q) rfl rfl (by kernel_rfl) (by kernel_rfl) (by kernel_rfl) (by kernel_rfl) (fun _ _ _ h=>h) HD8 (Or.inl ⟨by kernel_rfl,fun W' hI=>?_⟩) (fun HD9=>?_)
  ·exact .inl (by go_simp)
  refine wpAnyR_lastL (by kernel_rfl) (by kernel_rfl) rfl (by kernel_rfl) (fun wS hrR=>⟨bl_drewT hrR,?_⟩)
  intro K hK
  have BR:=Lib.hid (bl_drewT hrR)
  clear hrR
  have NW:=Lib.hid (N9.out.below BR.out)
  have FW:=Lib.hid (F9.out.trans (Frm.of_below BR.out))
  have r5:=NW.out.rows.r5
  rw [E5.out] at r5
  have c4:=(r5.cellAt i hian).1
  have f4:=(r5.cellAt i hian).2
  clear r5
  go_simp
  refine hK _ _ ?_
  clear hK K
  obtain ⟨s1,s2⟩:=NW.out.setAc E5.out i hian true
  rw [← HED.out] at s1
  clear c4 f4
  generalize wS.setCell ⟨b5,o5 + i,none⟩ (.bool true) = w10 at *
  have N10:=Lib.hid s1
  have F10:=Lib.hid (FW.out.trans s2)
  have HN10 : Hid (Blk w10 g8 27 [.slice M.a1 d.st.length M.c1,.slice M.a2 d.bt.length M.c2,.slice M.a3 d.pd.length M.c3,.slice M.a4 d.fo.length M.c4,.slice M.a5 d.ac.length M.c5,.int .i64 i,.int .i64 d.un,.int .i64 d.ra,.int .i64 d.li]):=Lib.hid (by have q:=s1.blk;unfold btL at q;rw [HDT.out] at q;exact q)
  clear s1 s2 HN9 N9 F9 NW FW
  go_wp2_with fail
  refine wp_region_W (last:=8) (k:=8) hmx rfl (fun HE0=>?_)
  refine wpAnyR_takeL (i:=0) (kw:=1) (v:=.pointer (some ⟨g8,0,none⟩)) (fun _=>bl_refl _) (fun p q=>bl_trans p q) rfl rfl (by kernel_rfl) (by kernel_rfl) (by kernel_rfl) (by kernel_rfl) (fun _ _ _ h=>h) HE0 (Or.inl ⟨by kernel_rfl,fun W' hI=>?_⟩) (fun HE1=>?_)
  ·exact .inl (by go_simp)
  refine wpAnyR_takeL (i:=1) (kw:=5) (v:=.pointer (some ⟨g8,0,none⟩)) (fun _=>bl_refl _) (fun p q=>bl_trans p q) rfl rfl (by kernel_rfl) (by kernel_rfl) (by kernel_rfl) (by kernel_rfl) (fun _ _ _ h=>h) HE1 (Or.inl ⟨by kernel_rfl,fun W' hI=>?_⟩) (fun HE2=>?_)
  ·exact .inl (by go_simp)
  refine wpAnyR_takeL (i:=2) (kw:=4) (v:=.pointer (some ⟨g8,0,none⟩)) (fun _=>bl_refl _) (fun p q=>bl_trans p q) rfl rfl (by kernel_rfl) (by kernel_rfl) (by kernel_rfl) (by kernel_rfl) (fun _ _ _ h=>h) HE2 (Or.inl ⟨by kernel_rfl,fun W' hI=>?_⟩) (fun HE3=>?_)
  ·exact .inl (by go_simp)
  refine wpAnyR_takeL (i:=3) (kw:=3) (v:=.pointer (some ⟨g8,5,none⟩)) (fun _=>bl_refl _) (fun p q=>bl_trans p q) rfl rfl (by kernel_rfl) (by kernel_rfl) (by kernel_rfl) (by kernel_rfl) (fun _ _ _ h=>h) HE3 (Or.inl ⟨by kernel_rfl,fun W' hI=>?_⟩) (fun HE4=>?_)
  ·exact .inl (by go_simp)
  refine wpAnyR_takeL (i:=4) (kw:=2) (v:=.int .i64 i) (fun _=>bl_refl _) (fun p q=>bl_trans p q) rfl rfl (by kernel_rfl) (by kernel_rfl) (by kernel_rfl) (by kernel_rfl) (fun _ _ _ h=>h) HE4 (Or.inl ⟨by kernel_rfl,fun W' hI=>?_⟩) (fun HE5=>?_)
  ·have hv:=(HN10.out).below hI
   obtain ⟨z5,_⟩:=hv.cell 5 _ rfl
   exact .inl (by go_simp)
  refine wpAnyR_takeL (i:=5) (kw:=3) (v:=.pointer (some ⟨g8,0,none⟩)) (fun _=>bl_refl _) (fun p q=>bl_trans p q) rfl rfl (by kernel_rfl) (by kernel_rfl) (by kernel_rfl) (by kernel_rfl) (fun _ _ _ h=>h) HE5 (Or.inl ⟨by kernel_rfl,fun W' hI=>?_⟩) (fun HE6=>?_)
  ·exact .inl (by go_simp)
  refine wpAnyR_takeL (i:=6) (kw:=2) (v:=.int .i64 d.st.length) (fun _=>bl_refl _) (fun p q=>bl_trans p q) rfl rfl (by kernel_rfl) (by kernel_rfl) (by kernel_rfl) (by kernel_rfl) (fun _ _ _ h=>h) HE6 (Or.inl ⟨by kernel_rfl,fun W' hI=>?_⟩) (fun HE7=>?_)
  ·exact .inr ⟨89,#[.pointer (some ⟨g8,0,none⟩)],by go_simp,(KS.out _ _ W' (N10.out.below hI)).mono fun e w' h=>⟨h.1,by rw [← h.2];exact bl_refl _⟩⟩
  refine wpAnyR_takeL (i:=7) (kw:=1) (v:=.int .i64 s9) (fun _=>bl_refl _) (fun p q=>bl_trans p q) rfl rfl (by kernel_rfl) (by kernel_rfl) (by kernel_rfl) (by kernel_rfl) (fun _ _ _ h=>h) HE7 (Or.inl ⟨by kernel_rfl,fun W' hI=>?_⟩) (fun HE8=>?_)
  ·exact .inr ⟨88,#[.int .i64 i,.int .i64 d.st.length],by go_simp,(KL.out W').mono fun e w' h=>⟨h.1,by rw [← h.2];exact bl_refl _⟩⟩
  refine wpAnyR_lastL (by kernel_rfl) (by kernel_rfl) rfl (by kernel_rfl) (fun wT hrR=>⟨bl_drewT hrR,?_⟩)
  intro K hK
  have BR:=Lib.hid (bl_drewT hrR)
  clear hrR
  go_simp
  go_wp2_with (first
    | (go_at_call 87;refine (KP.out _ _ _ (N10.out.below BR.out)).mono ?_;rintro e w11 ⟨rfl,hn,hf⟩;have N11:=Lib.hid hn;have F11:=Lib.hid ((F10.out.trans (Frm.of_below BR.out)).trans hf);have NR11:=Lib.hid (NR6.out.span F11.out (.inl G8.out));have B11:=Lib.hid (bl_frm B6.out F11.out (by have:=G8.out;omega));clear hn hf;obtain ⟨y0,-⟩:=N11.out.blk.cell 0 _ rfl;obtain ⟨y1,-⟩:=N11.out.blk.cell 1 _ rfl;obtain ⟨y2,-⟩:=N11.out.blk.cell 2 _ rfl;obtain ⟨y3,-⟩:=N11.out.blk.cell 3 _ rfl;obtain ⟨y4,-⟩:=N11.out.blk.cell 4 _ rfl;obtain ⟨y5,-⟩:=N11.out.blk.cell 5 _ rfl;obtain ⟨y6,-⟩:=N11.out.blk.cell 6 _ rfl;obtain ⟨y7,-⟩:=N11.out.blk.cell 7 _ rfl;obtain ⟨y8,-⟩:=N11.out.blk.cell 8 _ rfl)
    | ((with_reducible refine at_st 27 (.tmp 4) (.tmp 53) rfl ?_);(refine wpList_store_blk 27 9 rfl (.tmp 4) (.tmp 53) rfl iB (w.heap.size + 1 + 1) rfl [.slice M.a1 d.st.length M.c1,.slice M.a2 d.bt.length M.c2,.slice M.a3 d.pd.length M.c3,.slice M.a4 d.fo.length M.c4,.slice M.a5 d.ac.length M.c5,.int .i64 (nxtS d s9),.int .i64 d.un,.int .i64 d.ra,.int .i64 d.li] rfl rfl (by simp [Value.oneCell']) _ NR11.out rfl ?_);intro w12 k9 g9;have B12:=Lib.hid (below_grown1 B11.out g9 (by omega));have R12:=Lib.hid (N11.out.rows.grownB g9 (by have:=G8.out;omega))))
  obtain ⟨z0,_⟩:=k9.cell 0 _ rfl
  obtain ⟨z1,_⟩:=k9.cell 1 _ rfl
  obtain ⟨z2,_⟩:=k9.cell 2 _ rfl
  obtain ⟨z3,_⟩:=k9.cell 3 _ rfl
  obtain ⟨z4,_⟩:=k9.cell 4 _ rfl
  obtain ⟨z5,_⟩:=k9.cell 5 _ rfl
  obtain ⟨z6,_⟩:=k9.cell 6 _ rfl
  obtain ⟨z7,_⟩:=k9.cell 7 _ rfl
  obtain ⟨z8,_⟩:=k9.cell 8 _ rfl
  exact bodyPost_ret (v:=.tuple #[.agg #[.slice M.a1 d.st.length M.c1,.slice M.a2 d.bt.length M.c2,.slice M.a3 d.pd.length M.c3,.slice M.a4 d.fo.length M.c4,.slice M.a5 d.ac.length M.c5,.int .i64 (nxtS d s9),.int .i64 d.un,.int .i64 d.ra,.int .i64 d.li],.int .i64 0]) (by simp [results,Try.results22,go_sem,z0,z1,z2,z3,z4,z5,z6,z7,z8]) rfl ⟨M,by rw [HAP.out];rfl,by rw [HAP.out];exact R12.out.less (by have:=G8.out;omega),B12.out⟩
 ·have KF : Hid (∀ (g : Nat) (M : At5) (W : World),NB W g M b → Calls Try.prog 148 #[.pointer (some ⟨g,0,none⟩),.int .i64 x] W (Did g M (actB b 2 x) W)):=Lib.hid (fun g M W hW=>call_any g M b x W hW kk)
  obtain ⟨hd,hct,hcs,hca⟩:=hsd
  obtain ⟨c,ec⟩ : ∃ c : Bt,c = actB b 2 x:=⟨_,rfl⟩
  have HAP : Hid (appB b 2 x = { setAc c with tu:=nxtS (setAc c) (leftI (setAc c).tu (setAc c).st.length) }):=Lib.hid (by rw [ec];rfl)
  rw [← ec] at hd hct hcs hca KF
  rw [hi] at hct
  have HSA : Hid (setAc c = { c with ac:=c.ac.set i true }):=Lib.hid (by unfold setAc;rw [hct];rfl)
  obtain ⟨d,ed⟩ : ∃ d : Bt,d = { c with ac:=c.ac.set i true }:=⟨_,rfl⟩
  rw [HSA.out,← ed] at HAP hd
  have hdt : d.tu = (i : Int):=by rw [ed];exact hct
  have hds : d.st.length = b.st.length:=by rw [ed];exact hcs
  have HDT:=Lib.hid hdt
  have HCT:=Lib.hid hct
  have HED:=Lib.hid ed
  have hia : (i : Int) < c.ac.length:=by omega
  have hian : i < c.ac.length:=by omega
  have KS:=Lib.hid (fun (g : Nat) (M : At5) (W : World) (hW : NB W g M d)=>seatCountB_any g M d W hW.at_)
  have KL:=Lib.hid (fun W : World=>leftOf_any i d.st.length W (by omega) (by omega) (by omega) (by omega))
  have hlb:=left_bd (i : Int) (d.st.length : Int) (by omega)
  rw [hdt] at HAP
  have KP:=Lib.hid (fun (g : Nat) (M : At5) (W : World) (hW : NB W g M d)=>passTurn_any g M d (leftI i d.st.length) W hW hd hlb.1 hlb.2)
  clear ec ed hd hct hdt hlb hi kk hl hcs hca hds
  generalize leftI (i : Int) (d.st.length : Int) = s9 at *
  have hfl:=run_fieldR 147 148
  unfold bV chT chV at *
  go_enter Try.func22,Try.ntmps22
  go_wp2_with (first
    | (go_at_call 13;refine (KV.out _ BH.out.rd).mono ?_;rintro e w1 ⟨rfl,hb⟩;have bx:=bl_trans hb (bl_alloc (bl_refl w1) (.cells ([.bool c0,.int .i64 ca,.int .i64 le,.int .i64 mo] : List Value).toArray 30));have Ba:=Lib.hid (bl_trans B.out bx);have NAa:=Lib.hid (NA.out.below bx);have NRa:=Lib.hid (NR.out.below bx);have BHa:=Lib.hid (BH.out.below bx);have NC:=Lib.hid (blk_new w1 30 [.bool c0,.int .i64 ca,.int .i64 le,.int .i64 mo]);obtain ⟨p0,-⟩:=NAa.out.cell 0 _ rfl;obtain ⟨p1,-⟩:=NAa.out.cell 1 _ rfl;obtain ⟨r0,-⟩:=NC.out.cell 0 _ rfl;obtain ⟨r1,-⟩:=NC.out.cell 1 _ rfl;obtain ⟨r2,-⟩:=NC.out.cell 2 _ rfl;obtain ⟨r3,-⟩:=NC.out.cell 3 _ rfl;clear hb bx B NA NR BH)
    | (go_at_call 83;refine (KH.out _).mono ?_;rintro e w2 ⟨rfl,hb⟩;have Bb:=Lib.hid (bl_trans Ba.out hb);have NAb:=Lib.hid (NAa.out.below hb);have NRb:=Lib.hid (NRa.out.below hb);have BHb:=Lib.hid (BHa.out.below hb);clear hb Ba NAa NRa BHa)
    | (go_at_call 85;refine (KCL.out _ _ BHb.out).mono ?_;rintro e w6 ⟨g8,M,rfl,hg8,hn,hb⟩;have HN6:=Lib.hid hn;have hgn:=Bb.out.size;have B6:=Lib.hid (bl_trans Bb.out hb);have NA6:=Lib.hid (NAb.out.below hb);have NR6:=Lib.hid (NRb.out.below hb);have G8 : Hid (w.heap.size + 1 + 1 < g8):=Lib.hid (Nat.lt_of_lt_of_le NRb.out.lt hg8);clear hn hb Bb NAb NRb BHb hg8 hgn))
  refine wp_region_W (last:=8) (k:=8) hmx rfl (fun HC0=>?_)
  refine wpAnyR_takeL (i:=1) (kw:=4) (v:=.pointer (some ⟨w.heap.size + 1,0,none⟩)) (fun _=>bl_refl _) (fun p q=>bl_trans p q) rfl rfl (by kernel_rfl) (by kernel_rfl) (by kernel_rfl) (by kernel_rfl) (fun _ _ _ h=>h) HC0 (Or.inl ⟨by kernel_rfl,fun W' hI=>?_⟩) (fun HC1=>?_)
  ·exact .inl (by go_simp)
  refine wpAnyR_takeL (i:=2) (kw:=3) (v:=.int .i64 2) (fun _=>bl_refl _) (fun p q=>bl_trans p q) rfl rfl (by kernel_rfl) (by kernel_rfl) (by kernel_rfl) (by kernel_rfl) (fun _ _ _ h=>h) HC1 (Or.inl ⟨by kernel_rfl,fun W' hI=>?_⟩) (fun HC2=>?_)
  ·have hv:=(NA6.out).below hI
   obtain ⟨z0,_⟩:=hv.cell 0 _ rfl
   exact .inl (by go_simp)
  refine wpAnyR_takeL (i:=5) (kw:=1) (v:=.pointer (some ⟨g8,0,none⟩)) (fun _=>bl_refl _) (fun p q=>bl_trans p q) rfl rfl (by kernel_rfl) (by kernel_rfl) (by kernel_rfl) (by kernel_rfl) (fun _ _ _ h=>h) HC2 (Or.inl ⟨by kernel_rfl,fun W' hI=>?_⟩) (fun HC3=>?_)
  ·exact .inl (by go_simp)
  refine wpAnyR_takeL (i:=6) (kw:=2) (v:=.pointer (some ⟨w.heap.size + 1,1,none⟩)) (fun _=>bl_refl _) (fun p q=>bl_trans p q) rfl rfl (by kernel_rfl) (by kernel_rfl) (by kernel_rfl) (by kernel_rfl) (fun _ _ _ h=>h) HC3 (Or.inl ⟨by kernel_rfl,fun W' hI=>?_⟩) (fun HC4=>?_)
  ·exact .inl (by go_simp)
  refine wpAnyR_takeL (i:=7) (kw:=1) (v:=.int .i64 x) (fun _=>bl_refl _) (fun p q=>bl_trans p q) rfl rfl (by kernel_rfl) (by kernel_rfl) (by kernel_rfl) (by kernel_rfl) (fun _ _ _ h=>h) HC4 (Or.inl ⟨by kernel_rfl,fun W' hI=>?_⟩) (fun HC5=>?_)
  ·have hv:=(NA6.out).below hI
   obtain ⟨z1,_⟩:=hv.cell 1 _ rfl
   exact .inl (by go_simp)
  refine wpAnyR_oneL HC5 (i:=0) (by kernel_rfl) rfl (by kernel_rfl) (fun w4 hr4=>⟨bl_drewT hr4,?_⟩)
  intro K hK
  have B4:=Lib.hid (bl_drewT hr4)
  clear hr4
  go_simp
  go_wp2_with (go_at_call 86;refine (actionRules_any _).mono ?_;rintro e w5 ⟨gm,rfl,hgl,hm,hb⟩;have M5:=Lib.hid hm;have B5:=Lib.hid (bl_trans B4.out hb);clear hgl hm hb B4)
  intro HC6
  refine wpAnyR_oneL HC6 (i:=3) (by kernel_rfl) rfl (by kernel_rfl) (fun w7 hr7=>⟨bl_trans B5.out hr7,?_⟩)
  intro K hK
  have B7:=Lib.hid (bl_trans B5.out hr7)
  have hm7 : w7.heap[gm]? = some (.map (rulE 4) 4):=(hr7.block gm (Array.getElem?_eq_some_iff.1 M5.out).1).trans M5.out
  have hlk : (Instr.lookup 100 (.map (some gm)) (.int .i64 (2 : Int)) false).run Try.prog w7 = .ok (.agg #[.func (.func 147) #[] #[],.func (.func 148) #[] #[]]) w7:=run_lookR 2 (by omega) hm7 false
  clear hr7 hm7 M5 B5
  go_simp
  refine hK _ _ (fun HC7=>?_)
  clear hK K
  refine wpAnyR_oneL HC7 (i:=4) (by kernel_rfl) rfl (by kernel_rfl) (fun w8 hr8=>⟨bl_trans B7.out hr8,?_⟩)
  intro K hK
  have B8:=Lib.hid (bl_trans B7.out hr8)
  clear hr8 hlk
  go_simp
  refine hK _ _ (fun HC8=>?_)
  clear hK K
  refine wpAnyR_lastL (by kernel_rfl) (by kernel_rfl) rfl (by kernel_rfl) (fun wR hrR=>⟨bl_trans B8.out hrR,?_⟩)
  intro K hK
  have BR:=Lib.hid (bl_trans B8.out hrR)
  clear hrR
  go_simp
  go_wp2_with (go_at_call 148;refine (KF.out _ _ _ (HN6.out.below BR.out)).mono ?_;rintro e w9 ⟨rfl,hn,hf⟩;have N9:=Lib.hid hn;have F9:=Lib.hid ((Frm.of_below BR.out).trans hf);clear hn hf)
  obtain ⟨b5,o5,e5,-⟩:=N9.out.rows.r5.rd.at_0 i hian
  have E5:=Lib.hid e5
  have HN9 : Hid (Blk w9 g8 27 [.slice M.a1 c.st.length M.c1,.slice M.a2 c.bt.length M.c2,.slice M.a3 c.pd.length M.c3,.slice M.a4 c.fo.length M.c4,.slice (some ⟨b5,o5,none⟩) c.ac.length M.c5,.int .i64 i,.int .i64 c.un,.int .i64 c.ra,.int .i64 c.li]):=Lib.hid (by have q:=N9.out.blk;unfold btL at q;rw [e5,HCT.out] at q;exact q)
  clear e5
  refine wp_region_W (last:=9) (k:=9) hmx rfl (fun HD0=>?_)
  refine wpAnyR_takeL (i:=0) (kw:=5) (v:=.pointer (some ⟨g8,0,none⟩)) (fun _=>bl_refl _) (fun p q=>bl_trans p q) rfl rfl (by kernel_rfl) (by kernel_rfl) (by kernel_rfl) (by kernel_rfl) (fun _ _ _ h=>h) HD0 (Or.inl ⟨by kernel_rfl,fun W' hI=>?_⟩) (fun HD1=>?_)
  ·exact .inl (by go_simp)
  refine wpAnyR_takeL (i:=1) (kw:=4) (v:=.pointer (some ⟨g8,0,none⟩)) (fun _=>bl_refl _) (fun p q=>bl_trans p q) rfl rfl (by kernel_rfl) (by kernel_rfl) (by kernel_rfl) (by kernel_rfl) (fun _ _ _ h=>h) HD1 (Or.inl ⟨by kernel_rfl,fun W' hI=>?_⟩) (fun HD2=>?_)
  ·exact .inl (by go_simp)
  refine wpAnyR_takeL (i:=2) (kw:=3) (v:=.pointer (some ⟨g8,4,none⟩)) (fun _=>bl_refl _) (fun p q=>bl_trans p q) rfl rfl (by kernel_rfl) (by kernel_rfl) (by kernel_rfl) (by kernel_rfl) (fun _ _ _ h=>h) HD2 (Or.inl ⟨by kernel_rfl,fun W' hI=>?_⟩) (fun HD3=>?_)
  ·exact .inl (by go_simp)
  refine wpAnyR_takeL (i:=3) (kw:=2) (v:=.slice (some ⟨b5,o5,none⟩) c.ac.length M.c5) (fun _=>bl_refl _) (fun p q=>bl_trans p q) rfl rfl (by kernel_rfl) (by kernel_rfl) (by kernel_rfl) (by kernel_rfl) (fun _ _ _ h=>h) HD3 (Or.inl ⟨by kernel_rfl,fun W' hI=>?_⟩) (fun HD4=>?_)
  ·have hv:=(HN9.out).below hI
   obtain ⟨z4,_⟩:=hv.cell 4 _ rfl
   exact .inl (by go_simp)
  refine wpAnyR_takeL (i:=4) (kw:=5) (v:=.pointer (some ⟨g8,0,none⟩)) (fun _=>bl_refl _) (fun p q=>bl_trans p q) rfl rfl (by kernel_rfl) (by kernel_rfl) (by kernel_rfl) (by kernel_rfl) (fun _ _ _ h=>h) HD4 (Or.inl ⟨by kernel_rfl,fun W' hI=>?_⟩) (fun HD5=>?_)
  ·exact .inl (by go_simp)
  refine wpAnyR_takeL (i:=5) (kw:=4) (v:=.pointer (some ⟨g8,0,none⟩)) (fun _=>bl_refl _) (fun p q=>bl_trans p q) rfl rfl (by kernel_rfl) (by kernel_rfl) (by kernel_rfl) (by kernel_rfl) (fun _ _ _ h=>h) HD5 (Or.inl ⟨by kernel_rfl,fun W' hI=>?_⟩) (fun HD6=>?_)
  ·exact .inl (by go_simp)
  refine wpAnyR_takeL (i:=6) (kw:=3) (v:=.pointer (some ⟨g8,5,none⟩)) (fun _=>bl_refl _) (fun p q=>bl_trans p q) rfl rfl (by kernel_rfl) (by kernel_rfl) (by kernel_rfl) (by kernel_rfl) (fun _ _ _ h=>h) HD6 (Or.inl ⟨by kernel_rfl,fun W' hI=>?_⟩) (fun HD7=>?_)
  ·exact .inl (by go_simp)
  refine wpAnyR_takeL (i:=7) (kw:=2) (v:=.int .i64 i) (fun _=>bl_refl _) (fun p q=>bl_trans p q) rfl rfl (by kernel_rfl) (by kernel_rfl) (by kernel_rfl) (by kernel_rfl) (fun _ _ _ h=>h) HD7 (Or.inl ⟨by kernel_rfl,fun W' hI=>?_⟩) (fun HD8=>?_)
  ·have hv:=(HN9.out).below hI
   obtain ⟨z5,_⟩:=hv.cell 5 _ rfl
   exact .inl (by go_simp)
  refine wpAnyR_takeL (i:=8) (kw:=1) (v:=.pointer (some ⟨b5,o5 + i,none⟩)) (fun _=>bl_refl _) (fun p q=>bl_trans p q) rfl rfl (by kernel_rfl) (by kernel_rfl) (by kernel_rfl) (by kernel_rfl) (fun _ _ _ h=>h) HD8 (Or.inl ⟨by kernel_rfl,fun W' hI=>?_⟩) (fun HD9=>?_)
  ·exact .inl (by go_simp)
  refine wpAnyR_lastL (by kernel_rfl) (by kernel_rfl) rfl (by kernel_rfl) (fun wS hrR=>⟨bl_drewT hrR,?_⟩)
  intro K hK
  have BR:=Lib.hid (bl_drewT hrR)
  clear hrR
  have NW:=Lib.hid (N9.out.below BR.out)
  have FW:=Lib.hid (F9.out.trans (Frm.of_below BR.out))
  have r5:=NW.out.rows.r5
  rw [E5.out] at r5
  have c4:=(r5.cellAt i hian).1
  have f4:=(r5.cellAt i hian).2
  clear r5
  go_simp
  refine hK _ _ ?_
  clear hK K
  obtain ⟨s1,s2⟩:=NW.out.setAc E5.out i hian true
  rw [← HED.out] at s1
  clear c4 f4
  generalize wS.setCell ⟨b5,o5 + i,none⟩ (.bool true) = w10 at *
  have N10:=Lib.hid s1
  have F10:=Lib.hid (FW.out.trans s2)
  have HN10 : Hid (Blk w10 g8 27 [.slice M.a1 d.st.length M.c1,.slice M.a2 d.bt.length M.c2,.slice M.a3 d.pd.length M.c3,.slice M.a4 d.fo.length M.c4,.slice M.a5 d.ac.length M.c5,.int .i64 i,.int .i64 d.un,.int .i64 d.ra,.int .i64 d.li]):=Lib.hid (by have q:=s1.blk;unfold btL at q;rw [HDT.out] at q;exact q)
  clear s1 s2 HN9 N9 F9 NW FW
  go_wp2_with fail
  refine wp_region_W (last:=8) (k:=8) hmx rfl (fun HE0=>?_)
  refine wpAnyR_takeL (i:=0) (kw:=1) (v:=.pointer (some ⟨g8,0,none⟩)) (fun _=>bl_refl _) (fun p q=>bl_trans p q) rfl rfl (by kernel_rfl) (by kernel_rfl) (by kernel_rfl) (by kernel_rfl) (fun _ _ _ h=>h) HE0 (Or.inl ⟨by kernel_rfl,fun W' hI=>?_⟩) (fun HE1=>?_)
  ·exact .inl (by go_simp)
  refine wpAnyR_takeL (i:=1) (kw:=5) (v:=.pointer (some ⟨g8,0,none⟩)) (fun _=>bl_refl _) (fun p q=>bl_trans p q) rfl rfl (by kernel_rfl) (by kernel_rfl) (by kernel_rfl) (by kernel_rfl) (fun _ _ _ h=>h) HE1 (Or.inl ⟨by kernel_rfl,fun W' hI=>?_⟩) (fun HE2=>?_)
  ·exact .inl (by go_simp)
  refine wpAnyR_takeL (i:=2) (kw:=4) (v:=.pointer (some ⟨g8,0,none⟩)) (fun _=>bl_refl _) (fun p q=>bl_trans p q) rfl rfl (by kernel_rfl) (by kernel_rfl) (by kernel_rfl) (by kernel_rfl) (fun _ _ _ h=>h) HE2 (Or.inl ⟨by kernel_rfl,fun W' hI=>?_⟩) (fun HE3=>?_)
  ·exact .inl (by go_simp)
  refine wpAnyR_takeL (i:=3) (kw:=3) (v:=.pointer (some ⟨g8,5,none⟩)) (fun _=>bl_refl _) (fun p q=>bl_trans p q) rfl rfl (by kernel_rfl) (by kernel_rfl) (by kernel_rfl) (by kernel_rfl) (fun _ _ _ h=>h) HE3 (Or.inl ⟨by kernel_rfl,fun W' hI=>?_⟩) (fun HE4=>?_)
  ·exact .inl (by go_simp)
  refine wpAnyR_takeL (i:=4) (kw:=2) (v:=.int .i64 i) (fun _=>bl_refl _) (fun p q=>bl_trans p q) rfl rfl (by kernel_rfl) (by kernel_rfl) (by kernel_rfl) (by kernel_rfl) (fun _ _ _ h=>h) HE4 (Or.inl ⟨by kernel_rfl,fun W' hI=>?_⟩) (fun HE5=>?_)
  ·have hv:=(HN10.out).below hI
   obtain ⟨z5,_⟩:=hv.cell 5 _ rfl
   exact .inl (by go_simp)
  refine wpAnyR_takeL (i:=5) (kw:=3) (v:=.pointer (some ⟨g8,0,none⟩)) (fun _=>bl_refl _) (fun p q=>bl_trans p q) rfl rfl (by kernel_rfl) (by kernel_rfl) (by kernel_rfl) (by kernel_rfl) (fun _ _ _ h=>h) HE5 (Or.inl ⟨by kernel_rfl,fun W' hI=>?_⟩) (fun HE6=>?_)
  ·exact .inl (by go_simp)
  refine wpAnyR_takeL (i:=6) (kw:=2) (v:=.int .i64 d.st.length) (fun _=>bl_refl _) (fun p q=>bl_trans p q) rfl rfl (by kernel_rfl) (by kernel_rfl) (by kernel_rfl) (by kernel_rfl) (fun _ _ _ h=>h) HE6 (Or.inl ⟨by kernel_rfl,fun W' hI=>?_⟩) (fun HE7=>?_)
  ·exact .inr ⟨89,#[.pointer (some ⟨g8,0,none⟩)],by go_simp,(KS.out _ _ W' (N10.out.below hI)).mono fun e w' h=>⟨h.1,by rw [← h.2];exact bl_refl _⟩⟩
  refine wpAnyR_takeL (i:=7) (kw:=1) (v:=.int .i64 s9) (fun _=>bl_refl _) (fun p q=>bl_trans p q) rfl rfl (by kernel_rfl) (by kernel_rfl) (by kernel_rfl) (by kernel_rfl) (fun _ _ _ h=>h) HE7 (Or.inl ⟨by kernel_rfl,fun W' hI=>?_⟩) (fun HE8=>?_)
  ·exact .inr ⟨88,#[.int .i64 i,.int .i64 d.st.length],by go_simp,(KL.out W').mono fun e w' h=>⟨h.1,by rw [← h.2];exact bl_refl _⟩⟩
  refine wpAnyR_lastL (by kernel_rfl) (by kernel_rfl) rfl (by kernel_rfl) (fun wT hrR=>⟨bl_drewT hrR,?_⟩)
  intro K hK
  have BR:=Lib.hid (bl_drewT hrR)
  clear hrR
  go_simp
  go_wp2_with (first
    | (go_at_call 87;refine (KP.out _ _ _ (N10.out.below BR.out)).mono ?_;rintro e w11 ⟨rfl,hn,hf⟩;have N11:=Lib.hid hn;have F11:=Lib.hid ((F10.out.trans (Frm.of_below BR.out)).trans hf);have NR11:=Lib.hid (NR6.out.span F11.out (.inl G8.out));have B11:=Lib.hid (bl_frm B6.out F11.out (by have:=G8.out;omega));clear hn hf;obtain ⟨y0,-⟩:=N11.out.blk.cell 0 _ rfl;obtain ⟨y1,-⟩:=N11.out.blk.cell 1 _ rfl;obtain ⟨y2,-⟩:=N11.out.blk.cell 2 _ rfl;obtain ⟨y3,-⟩:=N11.out.blk.cell 3 _ rfl;obtain ⟨y4,-⟩:=N11.out.blk.cell 4 _ rfl;obtain ⟨y5,-⟩:=N11.out.blk.cell 5 _ rfl;obtain ⟨y6,-⟩:=N11.out.blk.cell 6 _ rfl;obtain ⟨y7,-⟩:=N11.out.blk.cell 7 _ rfl;obtain ⟨y8,-⟩:=N11.out.blk.cell 8 _ rfl)
    | ((with_reducible refine at_st 27 (.tmp 4) (.tmp 53) rfl ?_);(refine wpList_store_blk 27 9 rfl (.tmp 4) (.tmp 53) rfl iB (w.heap.size + 1 + 1) rfl [.slice M.a1 d.st.length M.c1,.slice M.a2 d.bt.length M.c2,.slice M.a3 d.pd.length M.c3,.slice M.a4 d.fo.length M.c4,.slice M.a5 d.ac.length M.c5,.int .i64 (nxtS d s9),.int .i64 d.un,.int .i64 d.ra,.int .i64 d.li] rfl rfl (by simp [Value.oneCell']) _ NR11.out rfl ?_);intro w12 k9 g9;have B12:=Lib.hid (below_grown1 B11.out g9 (by omega));have R12:=Lib.hid (N11.out.rows.grownB g9 (by have:=G8.out;omega))))
  obtain ⟨z0,_⟩:=k9.cell 0 _ rfl
  obtain ⟨z1,_⟩:=k9.cell 1 _ rfl
  obtain ⟨z2,_⟩:=k9.cell 2 _ rfl
  obtain ⟨z3,_⟩:=k9.cell 3 _ rfl
  obtain ⟨z4,_⟩:=k9.cell 4 _ rfl
  obtain ⟨z5,_⟩:=k9.cell 5 _ rfl
  obtain ⟨z6,_⟩:=k9.cell 6 _ rfl
  obtain ⟨z7,_⟩:=k9.cell 7 _ rfl
  obtain ⟨z8,_⟩:=k9.cell 8 _ rfl
  exact bodyPost_ret (v:=.tuple #[.agg #[.slice M.a1 d.st.length M.c1,.slice M.a2 d.bt.length M.c2,.slice M.a3 d.pd.length M.c3,.slice M.a4 d.fo.length M.c4,.slice M.a5 d.ac.length M.c5,.int .i64 (nxtS d s9),.int .i64 d.un,.int .i64 d.ra,.int .i64 d.li],.int .i64 0]) (by simp [results,Try.results22,go_sem,z0,z1,z2,z3,z4,z5,z6,z7,z8]) rfl ⟨M,by rw [HAP.out];rfl,by rw [HAP.out];exact R12.out.less (by have:=G8.out;omega),B12.out⟩
 ·have KF : Hid (∀ (g : Nat) (M : At5) (W : World),NB W g M b → Calls Try.prog 150 #[.pointer (some ⟨g,0,none⟩),.int .i64 x] W (Did g M (actB b 3 x) W)):=Lib.hid (fun g M W hW=>raiseTo_any g M b x W hW kk (raise_bd kk hl).1 (raise_bd kk hl).2)
  obtain ⟨hd,hct,hcs,hca⟩:=hsd
  obtain ⟨c,ec⟩ : ∃ c : Bt,c = actB b 3 x:=⟨_,rfl⟩
  have HAP : Hid (appB b 3 x = { setAc c with tu:=nxtS (setAc c) (leftI (setAc c).tu (setAc c).st.length) }):=Lib.hid (by rw [ec];rfl)
  rw [← ec] at hd hct hcs hca KF
  rw [hi] at hct
  have HSA : Hid (setAc c = { c with ac:=c.ac.set i true }):=Lib.hid (by unfold setAc;rw [hct];rfl)
  obtain ⟨d,ed⟩ : ∃ d : Bt,d = { c with ac:=c.ac.set i true }:=⟨_,rfl⟩
  rw [HSA.out,← ed] at HAP hd
  have hdt : d.tu = (i : Int):=by rw [ed];exact hct
  have hds : d.st.length = b.st.length:=by rw [ed];exact hcs
  have HDT:=Lib.hid hdt
  have HCT:=Lib.hid hct
  have HED:=Lib.hid ed
  have hia : (i : Int) < c.ac.length:=by omega
  have hian : i < c.ac.length:=by omega
  have KS:=Lib.hid (fun (g : Nat) (M : At5) (W : World) (hW : NB W g M d)=>seatCountB_any g M d W hW.at_)
  have KL:=Lib.hid (fun W : World=>leftOf_any i d.st.length W (by omega) (by omega) (by omega) (by omega))
  have hlb:=left_bd (i : Int) (d.st.length : Int) (by omega)
  rw [hdt] at HAP
  have KP:=Lib.hid (fun (g : Nat) (M : At5) (W : World) (hW : NB W g M d)=>passTurn_any g M d (leftI i d.st.length) W hW hd hlb.1 hlb.2)
  clear ec ed hd hct hdt hlb hi kk hl hcs hca hds
  generalize leftI (i : Int) (d.st.length : Int) = s9 at *
  have hfl:=run_fieldR 149 150
  unfold bV chT chV at *
  go_enter Try.func22,Try.ntmps22
  go_wp2_with (first
    | (go_at_call 13;refine (KV.out _ BH.out.rd).mono ?_;rintro e w1 ⟨rfl,hb⟩;have bx:=bl_trans hb (bl_alloc (bl_refl w1) (.cells ([.bool c0,.int .i64 ca,.int .i64 le,.int .i64 mo] : List Value).toArray 30));have Ba:=Lib.hid (bl_trans B.out bx);have NAa:=Lib.hid (NA.out.below bx);have NRa:=Lib.hid (NR.out.below bx);have BHa:=Lib.hid (BH.out.below bx);have NC:=Lib.hid (blk_new w1 30 [.bool c0,.int .i64 ca,.int .i64 le,.int .i64 mo]);obtain ⟨p0,-⟩:=NAa.out.cell 0 _ rfl;obtain ⟨p1,-⟩:=NAa.out.cell 1 _ rfl;obtain ⟨r0,-⟩:=NC.out.cell 0 _ rfl;obtain ⟨r1,-⟩:=NC.out.cell 1 _ rfl;obtain ⟨r2,-⟩:=NC.out.cell 2 _ rfl;obtain ⟨r3,-⟩:=NC.out.cell 3 _ rfl;clear hb bx B NA NR BH)
    | (go_at_call 83;refine (KH.out _).mono ?_;rintro e w2 ⟨rfl,hb⟩;have Bb:=Lib.hid (bl_trans Ba.out hb);have NAb:=Lib.hid (NAa.out.below hb);have NRb:=Lib.hid (NRa.out.below hb);have BHb:=Lib.hid (BHa.out.below hb);clear hb Ba NAa NRa BHa)
    | (go_at_call 85;refine (KCL.out _ _ BHb.out).mono ?_;rintro e w6 ⟨g8,M,rfl,hg8,hn,hb⟩;have HN6:=Lib.hid hn;have hgn:=Bb.out.size;have B6:=Lib.hid (bl_trans Bb.out hb);have NA6:=Lib.hid (NAb.out.below hb);have NR6:=Lib.hid (NRb.out.below hb);have G8 : Hid (w.heap.size + 1 + 1 < g8):=Lib.hid (Nat.lt_of_lt_of_le NRb.out.lt hg8);clear hn hb Bb NAb NRb BHb hg8 hgn))
  refine wp_region_W (last:=8) (k:=8) hmx rfl (fun HC0=>?_)
  refine wpAnyR_takeL (i:=1) (kw:=4) (v:=.pointer (some ⟨w.heap.size + 1,0,none⟩)) (fun _=>bl_refl _) (fun p q=>bl_trans p q) rfl rfl (by kernel_rfl) (by kernel_rfl) (by kernel_rfl) (by kernel_rfl) (fun _ _ _ h=>h) HC0 (Or.inl ⟨by kernel_rfl,fun W' hI=>?_⟩) (fun HC1=>?_)
  ·exact .inl (by go_simp)
  refine wpAnyR_takeL (i:=2) (kw:=3) (v:=.int .i64 3) (fun _=>bl_refl _) (fun p q=>bl_trans p q) rfl rfl (by kernel_rfl) (by kernel_rfl) (by kernel_rfl) (by kernel_rfl) (fun _ _ _ h=>h) HC1 (Or.inl ⟨by kernel_rfl,fun W' hI=>?_⟩) (fun HC2=>?_)
  ·have hv:=(NA6.out).below hI
   obtain ⟨z0,_⟩:=hv.cell 0 _ rfl
   exact .inl (by go_simp)
  refine wpAnyR_takeL (i:=5) (kw:=1) (v:=.pointer (some ⟨g8,0,none⟩)) (fun _=>bl_refl _) (fun p q=>bl_trans p q) rfl rfl (by kernel_rfl) (by kernel_rfl) (by kernel_rfl) (by kernel_rfl) (fun _ _ _ h=>h) HC2 (Or.inl ⟨by kernel_rfl,fun W' hI=>?_⟩) (fun HC3=>?_)
  ·exact .inl (by go_simp)
  refine wpAnyR_takeL (i:=6) (kw:=2) (v:=.pointer (some ⟨w.heap.size + 1,1,none⟩)) (fun _=>bl_refl _) (fun p q=>bl_trans p q) rfl rfl (by kernel_rfl) (by kernel_rfl) (by kernel_rfl) (by kernel_rfl) (fun _ _ _ h=>h) HC3 (Or.inl ⟨by kernel_rfl,fun W' hI=>?_⟩) (fun HC4=>?_)
  ·exact .inl (by go_simp)
  refine wpAnyR_takeL (i:=7) (kw:=1) (v:=.int .i64 x) (fun _=>bl_refl _) (fun p q=>bl_trans p q) rfl rfl (by kernel_rfl) (by kernel_rfl) (by kernel_rfl) (by kernel_rfl) (fun _ _ _ h=>h) HC4 (Or.inl ⟨by kernel_rfl,fun W' hI=>?_⟩) (fun HC5=>?_)
  ·have hv:=(NA6.out).below hI
   obtain ⟨z1,_⟩:=hv.cell 1 _ rfl
   exact .inl (by go_simp)
  refine wpAnyR_oneL HC5 (i:=0) (by kernel_rfl) rfl (by kernel_rfl) (fun w4 hr4=>⟨bl_drewT hr4,?_⟩)
  intro K hK
  have B4:=Lib.hid (bl_drewT hr4)
  clear hr4
  go_simp
  go_wp2_with (go_at_call 86;refine (actionRules_any _).mono ?_;rintro e w5 ⟨gm,rfl,hgl,hm,hb⟩;have M5:=Lib.hid hm;have B5:=Lib.hid (bl_trans B4.out hb);clear hgl hm hb B4)
  intro HC6
  refine wpAnyR_oneL HC6 (i:=3) (by kernel_rfl) rfl (by kernel_rfl) (fun w7 hr7=>⟨bl_trans B5.out hr7,?_⟩)
  intro K hK
  have B7:=Lib.hid (bl_trans B5.out hr7)
  have hm7 : w7.heap[gm]? = some (.map (rulE 4) 4):=(hr7.block gm (Array.getElem?_eq_some_iff.1 M5.out).1).trans M5.out
  have hlk : (Instr.lookup 100 (.map (some gm)) (.int .i64 (3 : Int)) false).run Try.prog w7 = .ok (.agg #[.func (.func 149) #[] #[],.func (.func 150) #[] #[]]) w7:=run_lookR 3 (by omega) hm7 false
  clear hr7 hm7 M5 B5
  go_simp
  refine hK _ _ (fun HC7=>?_)
  clear hK K
  refine wpAnyR_oneL HC7 (i:=4) (by kernel_rfl) rfl (by kernel_rfl) (fun w8 hr8=>⟨bl_trans B7.out hr8,?_⟩)
  intro K hK
  have B8:=Lib.hid (bl_trans B7.out hr8)
  clear hr8 hlk
  go_simp
  refine hK _ _ (fun HC8=>?_)
  clear hK K
  refine wpAnyR_lastL (by kernel_rfl) (by kernel_rfl) rfl (by kernel_rfl) (fun wR hrR=>⟨bl_trans B8.out hrR,?_⟩)
  intro K hK
  have BR:=Lib.hid (bl_trans B8.out hrR)
  clear hrR
  go_simp
  go_wp2_with (go_at_call 150;refine (KF.out _ _ _ (HN6.out.below BR.out)).mono ?_;rintro e w9 ⟨rfl,hn,hf⟩;have N9:=Lib.hid hn;have F9:=Lib.hid ((Frm.of_below BR.out).trans hf);clear hn hf)
  obtain ⟨b5,o5,e5,-⟩:=N9.out.rows.r5.rd.at_0 i hian
  have E5:=Lib.hid e5
  have HN9 : Hid (Blk w9 g8 27 [.slice M.a1 c.st.length M.c1,.slice M.a2 c.bt.length M.c2,.slice M.a3 c.pd.length M.c3,.slice M.a4 c.fo.length M.c4,.slice (some ⟨b5,o5,none⟩) c.ac.length M.c5,.int .i64 i,.int .i64 c.un,.int .i64 c.ra,.int .i64 c.li]):=Lib.hid (by have q:=N9.out.blk;unfold btL at q;rw [e5,HCT.out] at q;exact q)
  clear e5
  refine wp_region_W (last:=9) (k:=9) hmx rfl (fun HD0=>?_)
  refine wpAnyR_takeL (i:=0) (kw:=5) (v:=.pointer (some ⟨g8,0,none⟩)) (fun _=>bl_refl _) (fun p q=>bl_trans p q) rfl rfl (by kernel_rfl) (by kernel_rfl) (by kernel_rfl) (by kernel_rfl) (fun _ _ _ h=>h) HD0 (Or.inl ⟨by kernel_rfl,fun W' hI=>?_⟩) (fun HD1=>?_)
  ·exact .inl (by go_simp)
  refine wpAnyR_takeL (i:=1) (kw:=4) (v:=.pointer (some ⟨g8,0,none⟩)) (fun _=>bl_refl _) (fun p q=>bl_trans p q) rfl rfl (by kernel_rfl) (by kernel_rfl) (by kernel_rfl) (by kernel_rfl) (fun _ _ _ h=>h) HD1 (Or.inl ⟨by kernel_rfl,fun W' hI=>?_⟩) (fun HD2=>?_)
  ·exact .inl (by go_simp)
  refine wpAnyR_takeL (i:=2) (kw:=3) (v:=.pointer (some ⟨g8,4,none⟩)) (fun _=>bl_refl _) (fun p q=>bl_trans p q) rfl rfl (by kernel_rfl) (by kernel_rfl) (by kernel_rfl) (by kernel_rfl) (fun _ _ _ h=>h) HD2 (Or.inl ⟨by kernel_rfl,fun W' hI=>?_⟩) (fun HD3=>?_)
  ·exact .inl (by go_simp)
  refine wpAnyR_takeL (i:=3) (kw:=2) (v:=.slice (some ⟨b5,o5,none⟩) c.ac.length M.c5) (fun _=>bl_refl _) (fun p q=>bl_trans p q) rfl rfl (by kernel_rfl) (by kernel_rfl) (by kernel_rfl) (by kernel_rfl) (fun _ _ _ h=>h) HD3 (Or.inl ⟨by kernel_rfl,fun W' hI=>?_⟩) (fun HD4=>?_)
  ·have hv:=(HN9.out).below hI
   obtain ⟨z4,_⟩:=hv.cell 4 _ rfl
   exact .inl (by go_simp)
  refine wpAnyR_takeL (i:=4) (kw:=5) (v:=.pointer (some ⟨g8,0,none⟩)) (fun _=>bl_refl _) (fun p q=>bl_trans p q) rfl rfl (by kernel_rfl) (by kernel_rfl) (by kernel_rfl) (by kernel_rfl) (fun _ _ _ h=>h) HD4 (Or.inl ⟨by kernel_rfl,fun W' hI=>?_⟩) (fun HD5=>?_)
  ·exact .inl (by go_simp)
  refine wpAnyR_takeL (i:=5) (kw:=4) (v:=.pointer (some ⟨g8,0,none⟩)) (fun _=>bl_refl _) (fun p q=>bl_trans p q) rfl rfl (by kernel_rfl) (by kernel_rfl) (by kernel_rfl) (by kernel_rfl) (fun _ _ _ h=>h) HD5 (Or.inl ⟨by kernel_rfl,fun W' hI=>?_⟩) (fun HD6=>?_)
  ·exact .inl (by go_simp)
  refine wpAnyR_takeL (i:=6) (kw:=3) (v:=.pointer (some ⟨g8,5,none⟩)) (fun _=>bl_refl _) (fun p q=>bl_trans p q) rfl rfl (by kernel_rfl) (by kernel_rfl) (by kernel_rfl) (by kernel_rfl) (fun _ _ _ h=>h) HD6 (Or.inl ⟨by kernel_rfl,fun W' hI=>?_⟩) (fun HD7=>?_)
  ·exact .inl (by go_simp)
  refine wpAnyR_takeL (i:=7) (kw:=2) (v:=.int .i64 i) (fun _=>bl_refl _) (fun p q=>bl_trans p q) rfl rfl (by kernel_rfl) (by kernel_rfl) (by kernel_rfl) (by kernel_rfl) (fun _ _ _ h=>h) HD7 (Or.inl ⟨by kernel_rfl,fun W' hI=>?_⟩) (fun HD8=>?_)
  ·have hv:=(HN9.out).below hI
   obtain ⟨z5,_⟩:=hv.cell 5 _ rfl
   exact .inl (by go_simp)
  refine wpAnyR_takeL (i:=8) (kw:=1) (v:=.pointer (some ⟨b5,o5 + i,none⟩)) (fun _=>bl_refl _) (fun p q=>bl_trans p q) rfl rfl (by kernel_rfl) (by kernel_rfl) (by kernel_rfl) (by kernel_rfl) (fun _ _ _ h=>h) HD8 (Or.inl ⟨by kernel_rfl,fun W' hI=>?_⟩) (fun HD9=>?_)
  ·exact .inl (by go_simp)
  refine wpAnyR_lastL (by kernel_rfl) (by kernel_rfl) rfl (by kernel_rfl) (fun wS hrR=>⟨bl_drewT hrR,?_⟩)
  intro K hK
  have BR:=Lib.hid (bl_drewT hrR)
  clear hrR
  have NW:=Lib.hid (N9.out.below BR.out)
  have FW:=Lib.hid (F9.out.trans (Frm.of_below BR.out))
  have r5:=NW.out.rows.r5
  rw [E5.out] at r5
  have c4:=(r5.cellAt i hian).1
  have f4:=(r5.cellAt i hian).2
  clear r5
  go_simp
  refine hK _ _ ?_
  clear hK K
  obtain ⟨s1,s2⟩:=NW.out.setAc E5.out i hian true
  rw [← HED.out] at s1
  clear c4 f4
  generalize wS.setCell ⟨b5,o5 + i,none⟩ (.bool true) = w10 at *
  have N10:=Lib.hid s1
  have F10:=Lib.hid (FW.out.trans s2)
  have HN10 : Hid (Blk w10 g8 27 [.slice M.a1 d.st.length M.c1,.slice M.a2 d.bt.length M.c2,.slice M.a3 d.pd.length M.c3,.slice M.a4 d.fo.length M.c4,.slice M.a5 d.ac.length M.c5,.int .i64 i,.int .i64 d.un,.int .i64 d.ra,.int .i64 d.li]):=Lib.hid (by have q:=s1.blk;unfold btL at q;rw [HDT.out] at q;exact q)
  clear s1 s2 HN9 N9 F9 NW FW
  go_wp2_with fail
  refine wp_region_W (last:=8) (k:=8) hmx rfl (fun HE0=>?_)
  refine wpAnyR_takeL (i:=0) (kw:=1) (v:=.pointer (some ⟨g8,0,none⟩)) (fun _=>bl_refl _) (fun p q=>bl_trans p q) rfl rfl (by kernel_rfl) (by kernel_rfl) (by kernel_rfl) (by kernel_rfl) (fun _ _ _ h=>h) HE0 (Or.inl ⟨by kernel_rfl,fun W' hI=>?_⟩) (fun HE1=>?_)
  ·exact .inl (by go_simp)
  refine wpAnyR_takeL (i:=1) (kw:=5) (v:=.pointer (some ⟨g8,0,none⟩)) (fun _=>bl_refl _) (fun p q=>bl_trans p q) rfl rfl (by kernel_rfl) (by kernel_rfl) (by kernel_rfl) (by kernel_rfl) (fun _ _ _ h=>h) HE1 (Or.inl ⟨by kernel_rfl,fun W' hI=>?_⟩) (fun HE2=>?_)
  ·exact .inl (by go_simp)
  refine wpAnyR_takeL (i:=2) (kw:=4) (v:=.pointer (some ⟨g8,0,none⟩)) (fun _=>bl_refl _) (fun p q=>bl_trans p q) rfl rfl (by kernel_rfl) (by kernel_rfl) (by kernel_rfl) (by kernel_rfl) (fun _ _ _ h=>h) HE2 (Or.inl ⟨by kernel_rfl,fun W' hI=>?_⟩) (fun HE3=>?_)
  ·exact .inl (by go_simp)
  refine wpAnyR_takeL (i:=3) (kw:=3) (v:=.pointer (some ⟨g8,5,none⟩)) (fun _=>bl_refl _) (fun p q=>bl_trans p q) rfl rfl (by kernel_rfl) (by kernel_rfl) (by kernel_rfl) (by kernel_rfl) (fun _ _ _ h=>h) HE3 (Or.inl ⟨by kernel_rfl,fun W' hI=>?_⟩) (fun HE4=>?_)
  ·exact .inl (by go_simp)
  refine wpAnyR_takeL (i:=4) (kw:=2) (v:=.int .i64 i) (fun _=>bl_refl _) (fun p q=>bl_trans p q) rfl rfl (by kernel_rfl) (by kernel_rfl) (by kernel_rfl) (by kernel_rfl) (fun _ _ _ h=>h) HE4 (Or.inl ⟨by kernel_rfl,fun W' hI=>?_⟩) (fun HE5=>?_)
  ·have hv:=(HN10.out).below hI
   obtain ⟨z5,_⟩:=hv.cell 5 _ rfl
   exact .inl (by go_simp)
  refine wpAnyR_takeL (i:=5) (kw:=3) (v:=.pointer (some ⟨g8,0,none⟩)) (fun _=>bl_refl _) (fun p q=>bl_trans p q) rfl rfl (by kernel_rfl) (by kernel_rfl) (by kernel_rfl) (by kernel_rfl) (fun _ _ _ h=>h) HE5 (Or.inl ⟨by kernel_rfl,fun W' hI=>?_⟩) (fun HE6=>?_)
  ·exact .inl (by go_simp)
  refine wpAnyR_takeL (i:=6) (kw:=2) (v:=.int .i64 d.st.length) (fun _=>bl_refl _) (fun p q=>bl_trans p q) rfl rfl (by kernel_rfl) (by kernel_rfl) (by kernel_rfl) (by kernel_rfl) (fun _ _ _ h=>h) HE6 (Or.inl ⟨by kernel_rfl,fun W' hI=>?_⟩) (fun HE7=>?_)
  ·exact .inr ⟨89,#[.pointer (some ⟨g8,0,none⟩)],by go_simp,(KS.out _ _ W' (N10.out.below hI)).mono fun e w' h=>⟨h.1,by rw [← h.2];exact bl_refl _⟩⟩
  refine wpAnyR_takeL (i:=7) (kw:=1) (v:=.int .i64 s9) (fun _=>bl_refl _) (fun p q=>bl_trans p q) rfl rfl (by kernel_rfl) (by kernel_rfl) (by kernel_rfl) (by kernel_rfl) (fun _ _ _ h=>h) HE7 (Or.inl ⟨by kernel_rfl,fun W' hI=>?_⟩) (fun HE8=>?_)
  ·exact .inr ⟨88,#[.int .i64 i,.int .i64 d.st.length],by go_simp,(KL.out W').mono fun e w' h=>⟨h.1,by rw [← h.2];exact bl_refl _⟩⟩
  refine wpAnyR_lastL (by kernel_rfl) (by kernel_rfl) rfl (by kernel_rfl) (fun wT hrR=>⟨bl_drewT hrR,?_⟩)
  intro K hK
  have BR:=Lib.hid (bl_drewT hrR)
  clear hrR
  go_simp
  go_wp2_with (first
    | (go_at_call 87;refine (KP.out _ _ _ (N10.out.below BR.out)).mono ?_;rintro e w11 ⟨rfl,hn,hf⟩;have N11:=Lib.hid hn;have F11:=Lib.hid ((F10.out.trans (Frm.of_below BR.out)).trans hf);have NR11:=Lib.hid (NR6.out.span F11.out (.inl G8.out));have B11:=Lib.hid (bl_frm B6.out F11.out (by have:=G8.out;omega));clear hn hf;obtain ⟨y0,-⟩:=N11.out.blk.cell 0 _ rfl;obtain ⟨y1,-⟩:=N11.out.blk.cell 1 _ rfl;obtain ⟨y2,-⟩:=N11.out.blk.cell 2 _ rfl;obtain ⟨y3,-⟩:=N11.out.blk.cell 3 _ rfl;obtain ⟨y4,-⟩:=N11.out.blk.cell 4 _ rfl;obtain ⟨y5,-⟩:=N11.out.blk.cell 5 _ rfl;obtain ⟨y6,-⟩:=N11.out.blk.cell 6 _ rfl;obtain ⟨y7,-⟩:=N11.out.blk.cell 7 _ rfl;obtain ⟨y8,-⟩:=N11.out.blk.cell 8 _ rfl)
    | ((with_reducible refine at_st 27 (.tmp 4) (.tmp 53) rfl ?_);(refine wpList_store_blk 27 9 rfl (.tmp 4) (.tmp 53) rfl iB (w.heap.size + 1 + 1) rfl [.slice M.a1 d.st.length M.c1,.slice M.a2 d.bt.length M.c2,.slice M.a3 d.pd.length M.c3,.slice M.a4 d.fo.length M.c4,.slice M.a5 d.ac.length M.c5,.int .i64 (nxtS d s9),.int .i64 d.un,.int .i64 d.ra,.int .i64 d.li] rfl rfl (by simp [Value.oneCell']) _ NR11.out rfl ?_);intro w12 k9 g9;have B12:=Lib.hid (below_grown1 B11.out g9 (by omega));have R12:=Lib.hid (N11.out.rows.grownB g9 (by have:=G8.out;omega))))
  obtain ⟨z0,_⟩:=k9.cell 0 _ rfl
  obtain ⟨z1,_⟩:=k9.cell 1 _ rfl
  obtain ⟨z2,_⟩:=k9.cell 2 _ rfl
  obtain ⟨z3,_⟩:=k9.cell 3 _ rfl
  obtain ⟨z4,_⟩:=k9.cell 4 _ rfl
  obtain ⟨z5,_⟩:=k9.cell 5 _ rfl
  obtain ⟨z6,_⟩:=k9.cell 6 _ rfl
  obtain ⟨z7,_⟩:=k9.cell 7 _ rfl
  obtain ⟨z8,_⟩:=k9.cell 8 _ rfl
  exact bodyPost_ret (v:=.tuple #[.agg #[.slice M.a1 d.st.length M.c1,.slice M.a2 d.bt.length M.c2,.slice M.a3 d.pd.length M.c3,.slice M.a4 d.fo.length M.c4,.slice M.a5 d.ac.length M.c5,.int .i64 (nxtS d s9),.int .i64 d.un,.int .i64 d.ra,.int .i64 d.li],.int .i64 0]) (by simp [results,Try.results22,go_sem,z0,z1,z2,z3,z4,z5,z6,z7,z8]) rfl ⟨M,by rw [HAP.out];rfl,by rw [HAP.out];exact R12.out.less (by have:=G8.out;omega),B12.out⟩
end Go.Proofs.Ytnllndcajdofjaa
