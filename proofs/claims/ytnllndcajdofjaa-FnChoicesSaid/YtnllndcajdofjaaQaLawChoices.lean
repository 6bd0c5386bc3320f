/-
 The law FnChoices: every open round has the choice to fold and one of the choices to check and to call, and raises are at least calls, for every code.
 No condition.
-/
import Derived.Test.YtnllndcajdofjaaQaDrawLeg
import Derived.Test.YtnllndcajdofjaaQaBetHasBG
import Derived.Test.YtnllndcajdofjaaQaBetFG
import Derived.Test.YtnllndcajdofjaaQaSpecBetLG
import Derived.Laws.StructEq
import Derived.BigQuiet
import Derived.Lib.SmallJoins
namespace Go.Proofs.Ytnllndcajdofjaa
open Go.ChangeShapes Go.WideShapes Go.ChangeAt Go.RowKit Go.Joins
set_option linter.unusedVariables false

set_option maxRecDepth 100000 in
theorem neqCh (c : Bool) (k l m : Int) (W : World) : (binOp .neq 30 (.agg #[.bool c,.int .i64 k,.int .i64 l,.int .i64 m]) (.agg #[.bool c,.int .i64 k,.int .i64 l,.int .i64 m])).run Try.prog W = .ok (.bool false) W:=by
 have h1 : Try.prog.underlying 30 = some (.struct (Try.prog.fieldsOf 30)):=by kernel_rfl
 have h2 : Try.prog.stoodInHeld 30 = false:=by kernel_rfl
 have h3 : (Try.prog.fieldsOf 30).toList.map (fun f=>(f.name != "_",f.type,f.offset)) = [(true,4,0),(true,2,1),(true,2,2),(true,2,3)]:=by kernel_rfl
 rw [run_neq_struct,run_equalIn_struct W 9999 30 _ _ h1 h2]
 generalize (Try.prog.fieldsOf 30).toList = fs at h3
 have hlen : fs.length = 4:=by have:=congrArg List.length h3;simpa using this
 match fs,hlen with
 | [f0,f1,f2,f3],_ =>
  simp only [List.map_cons,List.map_nil,List.cons.injEq,Prod.mk.injEq,and_true] at h3
  obtain ⟨⟨n0,t0,o0⟩,⟨n1,t1,o1⟩,⟨n2,t2,o2⟩,n3,t3,o3⟩:=h3
  have m0 : f0.name ≠ "_":=by simpa using n0
  have m1 : f1.name ≠ "_":=by simpa using n1
  have m2 : f2.name ≠ "_":=by simpa using n2
  have m3 : f3.name ≠ "_":=by simpa using n3
  simp [Op.eqFields,m0,m1,m2,m3,t0,t1,t2,t3,o0,o1,o2,o3,part,isAgg,run_underlying Try.underlying4,run_underlying Try.underlying2,run_equalIn_bool' W 9998 4 _ _ Try.underlying4,run_equalIn_int W 9998 2 .i64 .i64 _ _ Try.underlying2]
/-- What the law asks of a round;of one that is not open nothing. -/
theorem choices_facts (b : Bt) : ((codeB b == 0) = (okB b && openB b)) ∧ (codeB b ≠ 0 ∨ (codeB b = 0 ∧ okB b = true ∧ openB b = true ∧ legR b 0 0 = true ∧ legR b 1 0 = checkB b ∧ legR b 2 0 = !checkB b ∧ decide (0 < callI b) = !checkB b ∧ (mostI b = 0 → leastI b = 0) ∧
  (mostI b ≠ 0 → leastI b ≤ mostI b ∧ nth b.bt b.tu.toNat + callI b < leastI b ∧ legR b 3 (leastI b) = true ∧ legR b 3 (mostI b) = true) ∧ 0 ≤ b.tu ∧ b.tu < b.bt.length ∧ 0 ≤ nth b.bt b.tu.toNat ∧ nth b.bt b.tu.toNat ≤ 600000 ∧ 0 ≤ callI b ∧ callI b ≤ 600000)):=by
 rcases hv : okB b with _ | _
 ·have e:=codeB_no hv
  exact ⟨by rw [e];rfl,.inl (by rw [e];decide)⟩
 rcases ho : openB b with _ | _
 ·have e:=codeB_shut hv ho
  exact ⟨by rw [e];rfl,.inl (by rw [e];decide)⟩
 have e:=codeB_open hv ho
 refine ⟨by rw [e];rfl,.inr ⟨e,rfl,rfl,?_⟩⟩
 have h:=ok_of hv
 obtain ⟨i,hti⟩:=Int.eq_ofNat_of_zero_le h.t0
 have hi : i < b.st.length:=by have:=h.t1;omega
 have l2:=h.l2
 have hm:=must_facts (open_must hti ho)
 have el : ∀ k x,legR b k x = legB b k x:=fun k x=>by unfold legR;rw [hv,ho];rfl
 have cf:=call_facts h hti
 have tg : nth b.bt i ≤ topI b:=top_ge i (by omega)
 have t0:=top_bd h.sd
 have bt0:=h.s2 i (by omega)
 have st0:=h.s1 i hi
 have em : missI b = topI b - nth b.bt i:=by unfold missI;rw [hti];rfl
 have ec : callI b = minT (missI b) (nth b.st i):=by unfold callI;rw [hti];rfl
 have mi:=minT_le (missI b) (nth b.st i)
 have sp : 0 < nth b.st i:=hm.2.1
 have hck : decide (0 < callI b) = !checkB b:=by
  unfold checkB
  by_cases q : missI b = 0
  ·rw [q]
   have : ¬ 0 < callI b:=by rw [ec];omega
   rw [decide_eq_false this];rfl
  ·have h1 : (missI b == 0) = false:=by simpa using q
   have : 0 < callI b:=by rw [ec];omega
   rw [h1,decide_eq_true this];rfl
 have e0 : legR b 0 0 = true:=by rw [el];exact leg_fold b
 have e1 : legR b 1 0 = checkB b:=by rw [el];unfold legB;simp
 have e2 : legR b 2 0 = !checkB b:=by rw [el];unfold legB;simp only [show ¬ ((2 : Int) = 0) by decide,show ¬ ((2 : Int) = 1) by decide,if_false,if_true,show ((0 : Int) == 0) = true by decide,Bool.true_and];exact hck
 rw [hti,Int.toNat_natCast]
 refine ⟨e0,e1,e2,hck,fun q=>?_,fun q=>?_,by omega,by omega,bt0.1,bt0.2,cf.1,by omega⟩
 ·unfold mostI leastI at *
  by_cases hmay : mayB b = true
  ·rw [if_pos hmay] at q ⊢
   have:=minT_le (mostR b) (topI b + b.un)
   have:=h.u0
   rw [q] at *
   unfold minT;split <;> omega
  ·rw [if_neg hmay]
 ·have hmay : mayB b = true:=by
   unfold mostI at q
   by_cases hmay : mayB b = true
   ·exact hmay
   ·rw [if_neg hmay] at q;exact absurd rfl q
  have eM : mostI b = mostR b:=by unfold mostI;rw [if_pos hmay]
  have eL : leastI b = minT (mostR b) (topI b + b.un):=by unfold leastI;rw [if_pos hmay]
  have mf:=may_facts hti hmay
  have u0:=h.u0
  have eA : allIn b = nth b.bt i + nth b.st i:=by unfold allIn;rw [hti];rfl
  have p1:=(sumT_bdC b.bt h.s2 b.bt.length (Nat.le_refl _)).1
  have p2:=(sumT_bdC b.pd h.s3 b.pd.length (Nat.le_refl _)).1
  have pt : topI b ≤ potI b:=by
   have:=maxK_le_sum b.bt h.s2 b.bt.length (Nat.le_refl _)
   unfold topI potI;omega
  have hR : topI b < mostR b:=by
   rw [eM] at q
   unfold mostR at q ⊢
   split
   ·next hl =>
    rw [if_pos hl] at q
    have m1:=minT_le (allIn b) (topI b + potI b + missI b)
    omega
   ·next hl =>
    rw [if_neg hl] at q
    split
    ·next hl2 =>
     have m1:=minT_le (allIn b) (topI b + b.un)
     omega
    ·omega
  have m2:=minT_le (mostR b) (topI b + b.un)
  have hlm : leastI b ≤ mostI b:=by omega
  have hpos : 0 < mostI b:=by omega
  refine ⟨hlm,by omega,by rw [el];exact leg_raise hpos (Int.le_refl _) hlm,by rw [el];exact leg_raise hpos hlm (Int.le_refl _)⟩
theorem chR_open {b : Bt} (h : codeB b = 0) (hv : okB b = true) (ho : openB b = true) : chR b = chV (checkB b) (callI b) (leastI b) (mostI b):=by
 unfold chR;rw [hv,ho];rfl
set_option maxRecDepth 100000 in
set_option maxHeartbeats 6000000 in
theorem walkChoices_in (a : Option Addr) (L c : Nat) (zs : Nat → Int) (w : World) (hL : L ≤ 4096) (hc : CodeIn w a L zs) :
  Calls Try.prog 3 #[.slice a L c] w (Fresh (.bool true) w):=by
 have hmx : Try.prog.follows .mixedOrders = true:=by kernel_rfl
 have HC:=Lib.hid hc
 clear hc
 go_enter Try.func3,Try.ntmps3
 go_wp2_with (go_at_call 11;refine (big_no _ _ _ _ hL).mono ?_;rintro e wz ⟨rfl,rfl⟩)
 go_wp2_with (go_at_call 12;refine (drawChoicesIn_any _ _ _ _ _ hL HC.out).mono ?_;rintro e w1 ⟨M,b,rfl,hl,hg,hr,hb⟩;have X1:=Lib.hid hb;have B1:=Lib.hid (bl_trans (bl_refl w) hb);have R1:=Lib.hid hr;have LN:=Lib.hid hl;clear hr hl hg;have NT:=Lib.hid (blk_new w1 27 [.slice M.a1 b.st.length M.c1,.slice M.a2 b.bt.length M.c2,.slice M.a3 b.pd.length M.c3,.slice M.a4 b.fo.length M.c4,.slice M.a5 b.ac.length M.c5,.int .i64 b.tu,.int .i64 b.un,.int .i64 b.ra,.int .i64 b.li]);have B2:=Lib.hid (bl_trans B1.out (bl_alloc (bl_refl w1) (.cells ([.slice M.a1 b.st.length M.c1,.slice M.a2 b.bt.length M.c2,.slice M.a3 b.pd.length M.c3,.slice M.a4 b.fo.length M.c4,.slice M.a5 b.ac.length M.c5,.int .i64 b.tu,.int .i64 b.un,.int .i64 b.ra,.int .i64 b.li] : List Value).toArray 27))))
 have ln2:=LN.out.n2
 have ln6:=LN.out.n6
 have lm2:=LN.out.m2
 have lm3:=LN.out.m3
 have lm4:=LN.out.m4
 have lm5:=LN.out.m5
 have HF:=Lib.hid (choices_facts b)
 obtain ⟨ck,x1,x2,x3,ech⟩:=chR_form b
 have ECH:=Lib.hid ech
 have KA:=Lib.hid (fun (W : World) (h : Rd5 W M b)=>implChoicesIn_any M b W h)
 have KB:=Lib.hid (fun (W : World) (h : Rd5 W M b)=>specChoicesIn_any M b W h LN.out.sz)
 have KO:=Lib.hid (fun (W : World) (h : Rd5 W M b)=>implIsOpen_any M b W h)
 have KI:=Lib.hid (fun (W : World) (h : Rd5 W M b)=>implIsBetting_any M b W h)
 have KJ:=Lib.hid (fun (W : World) (h : Rd5 W M b)=>specIsBetting_any M b W h LN.out.sz)
 have KL:=Lib.hid (fun (k x : Int) (W : World) (h : Rd5 W M b)=>implIsLegal_any M b k x W h)
 have KDI:=Lib.hid (fun (W : World) (h : CodeIn W a L zs)=>drawIsLegal_any a L c zs W hL h)
 have e0:=HF.out.1
 have HF2:=Lib.hid HF.out.2
 have HCO:=Lib.hid (fun (q1 : codeB b = 0) (q2 : okB b = true) (q3 : openB b = true)=>chR_open q1 q2 q3)
 clear HF
 rw [ech] at KA KB HCO
 clear ech ECH
 generalize hkc : codeB b = kc at *
 generalize hob : (okB b && openB b) = ob at *
 clear hkc hob
 unfold chT chV bV at *
 obtain ⟨q1,-⟩:=(NT.out).cell 0 _ rfl
 obtain ⟨q2,-⟩:=(NT.out).cell 1 _ rfl
 obtain ⟨q3,-⟩:=(NT.out).cell 2 _ rfl
 obtain ⟨q4,-⟩:=(NT.out).cell 3 _ rfl
 obtain ⟨q5,-⟩:=(NT.out).cell 4 _ rfl
 obtain ⟨q6,-⟩:=(NT.out).cell 5 _ rfl
 obtain ⟨q7,-⟩:=(NT.out).cell 6 _ rfl
 obtain ⟨q8,-⟩:=(NT.out).cell 7 _ rfl
 obtain ⟨q9,-⟩:=(NT.out).cell 8 _ rfl
 go_wp2_with (go_at_call 13;refine (KA.out _ ((R1.out.below (bl_alloc (bl_refl w1) (.cells ([.slice M.a1 b.st.length M.c1,.slice M.a2 b.bt.length M.c2,.slice M.a3 b.pd.length M.c3,.slice M.a4 b.fo.length M.c4,.slice M.a5 b.ac.length M.c5,.int .i64 b.tu,.int .i64 b.un,.int .i64 b.ra,.int .i64 b.li] : List Value).toArray 27))))).mono ?_;rintro e w3 ⟨rfl,hb⟩;have X3:=Lib.hid hb;have B3:=Lib.hid (bl_trans B2.out hb);have NX:=Lib.hid (blk_new w3 30 [.bool ck,.int .i64 x1,.int .i64 x2,.int .i64 x3]);have B4:=Lib.hid (bl_trans B3.out (bl_alloc (bl_refl w3) (.cells ([.bool ck,.int .i64 x1,.int .i64 x2,.int .i64 x3] : List Value).toArray 30)));clear q1 q2 q3 q4 q5 q6 q7 q8 q9;obtain ⟨q10,-⟩:=(((NT.out.below X3.out).below (bl_alloc (bl_refl w3) (.cells ([.bool ck,.int .i64 x1,.int .i64 x2,.int .i64 x3] : List Value).toArray 30)))).cell 0 _ rfl;obtain ⟨q11,-⟩:=(((NT.out.below X3.out).below (bl_alloc (bl_refl w3) (.cells ([.bool ck,.int .i64 x1,.int .i64 x2,.int .i64 x3] : List Value).toArray 30)))).cell 1 _ rfl;obtain ⟨q12,-⟩:=(((NT.out.below X3.out).below (bl_alloc (bl_refl w3) (.cells ([.bool ck,.int .i64 x1,.int .i64 x2,.int .i64 x3] : List Value).toArray 30)))).cell 2 _ rfl;obtain ⟨q13,-⟩:=(((NT.out.below X3.out).below (bl_alloc (bl_refl w3) (.cells ([.bool ck,.int .i64 x1,.int .i64 x2,.int .i64 x3] : List Value).toArray 30)))).cell 3 _ rfl;obtain ⟨q14,-⟩:=(((NT.out.below X3.out).below (bl_alloc (bl_refl w3) (.cells ([.bool ck,.int .i64 x1,.int .i64 x2,.int .i64 x3] : List Value).toArray 30)))).cell 4 _ rfl;obtain ⟨q15,-⟩:=(((NT.out.below X3.out).below (bl_alloc (bl_refl w3) (.cells ([.bool ck,.int .i64 x1,.int .i64 x2,.int .i64 x3] : List Value).toArray 30)))).cell 5 _ rfl;obtain ⟨q16,-⟩:=(((NT.out.below X3.out).below (bl_alloc (bl_refl w3) (.cells ([.bool ck,.int .i64 x1,.int .i64 x2,.int .i64 x3] : List Value).toArray 30)))).cell 6 _ rfl;obtain ⟨q17,-⟩:=(((NT.out.below X3.out).below (bl_alloc (bl_refl w3) (.cells ([.bool ck,.int .i64 x1,.int .i64 x2,.int .i64 x3] : List Value).toArray 30)))).cell 7 _ rfl;obtain ⟨q18,-⟩:=(((NT.out.below X3.out).below (bl_alloc (bl_refl w3) (.cells ([.bool ck,.int .i64 x1,.int .i64 x2,.int .i64 x3] : List Value).toArray 30)))).cell 8 _ rfl)
 go_wp2_with (go_at_call 14;refine (KB.out _ ((((R1.out.below (bl_alloc (bl_refl w1) (.cells ([.slice M.a1 b.st.length M.c1,.slice M.a2 b.bt.length M.c2,.slice M.a3 b.pd.length M.c3,.slice M.a4 b.fo.length M.c4,.slice M.a5 b.ac.length M.c5,.int .i64 b.tu,.int .i64 b.un,.int .i64 b.ra,.int .i64 b.li] : List Value).toArray 27))).below X3.out).below (bl_alloc (bl_refl w3) (.cells ([.bool ck,.int .i64 x1,.int .i64 x2,.int .i64 x3] : List Value).toArray 30))))).mono ?_;rintro e w5 ⟨rfl,hb⟩;have X5:=Lib.hid hb;have B5:=Lib.hid (bl_trans B4.out hb);have NY:=Lib.hid (blk_new w5 30 [.bool ck,.int .i64 x1,.int .i64 x2,.int .i64 x3]);have B6:=Lib.hid (bl_trans B5.out (bl_alloc (bl_refl w5) (.cells ([.bool ck,.int .i64 x1,.int .i64 x2,.int .i64 x3] : List Value).toArray 30)));clear q10 q11 q12 q13 q14 q15 q16 q17 q18;obtain ⟨q19,-⟩:=(((((NT.out.below X3.out).below (bl_alloc (bl_refl w3) (.cells ([.bool ck,.int .i64 x1,.int .i64 x2,.int .i64 x3] : List Value).toArray 30))).below X5.out).below (bl_alloc (bl_refl w5) (.cells ([.bool ck,.int .i64 x1,.int .i64 x2,.int .i64 x3] : List Value).toArray 30)))).cell 0 _ rfl;obtain ⟨q20,-⟩:=(((((NT.out.below X3.out).below (bl_alloc (bl_refl w3) (.cells ([.bool ck,.int .i64 x1,.int .i64 x2,.int .i64 x3] : List Value).toArray 30))).below X5.out).below (bl_alloc (bl_refl w5) (.cells ([.bool ck,.int .i64 x1,.int .i64 x2,.int .i64 x3] : List Value).toArray 30)))).cell 1 _ rfl;obtain ⟨q21,-⟩:=(((((NT.out.below X3.out).below (bl_alloc (bl_refl w3) (.cells ([.bool ck,.int .i64 x1,.int .i64 x2,.int .i64 x3] : List Value).toArray 30))).below X5.out).below (bl_alloc (bl_refl w5) (.cells ([.bool ck,.int .i64 x1,.int .i64 x2,.int .i64 x3] : List Value).toArray 30)))).cell 2 _ rfl;obtain ⟨q22,-⟩:=(((((NT.out.below X3.out).below (bl_alloc (bl_refl w3) (.cells ([.bool ck,.int .i64 x1,.int .i64 x2,.int .i64 x3] : List Value).toArray 30))).below X5.out).below (bl_alloc (bl_refl w5) (.cells ([.bool ck,.int .i64 x1,.int .i64 x2,.int .i64 x3] : List Value).toArray 30)))).cell 3 _ rfl;obtain ⟨q23,-⟩:=(((((NT.out.below X3.out).below (bl_alloc (bl_refl w3) (.cells ([.bool ck,.int .i64 x1,.int .i64 x2,.int .i64 x3] : List Value).toArray 30))).below X5.out).below (bl_alloc (bl_refl w5) (.cells ([.bool ck,.int .i64 x1,.int .i64 x2,.int .i64 x3] : List Value).toArray 30)))).cell 4 _ rfl;obtain ⟨q24,-⟩:=(((((NT.out.below X3.out).below (bl_alloc (bl_refl w3) (.cells ([.bool ck,.int .i64 x1,.int .i64 x2,.int .i64 x3] : List Value).toArray 30))).below X5.out).below (bl_alloc (bl_refl w5) (.cells ([.bool ck,.int .i64 x1,.int .i64 x2,.int .i64 x3] : List Value).toArray 30)))).cell 5 _ rfl;obtain ⟨q25,-⟩:=(((((NT.out.below X3.out).below (bl_alloc (bl_refl w3) (.cells ([.bool ck,.int .i64 x1,.int .i64 x2,.int .i64 x3] : List Value).toArray 30))).below X5.out).below (bl_alloc (bl_refl w5) (.cells ([.bool ck,.int .i64 x1,.int .i64 x2,.int .i64 x3] : List Value).toArray 30)))).cell 6 _ rfl;obtain ⟨q26,-⟩:=(((((NT.out.below X3.out).below (bl_alloc (bl_refl w3) (.cells ([.bool ck,.int .i64 x1,.int .i64 x2,.int .i64 x3] : List Value).toArray 30))).below X5.out).below (bl_alloc (bl_refl w5) (.cells ([.bool ck,.int .i64 x1,.int .i64 x2,.int .i64 x3] : List Value).toArray 30)))).cell 7 _ rfl;obtain ⟨q27,-⟩:=(((((NT.out.below X3.out).below (bl_alloc (bl_refl w3) (.cells ([.bool ck,.int .i64 x1,.int .i64 x2,.int .i64 x3] : List Value).toArray 30))).below X5.out).below (bl_alloc (bl_refl w5) (.cells ([.bool ck,.int .i64 x1,.int .i64 x2,.int .i64 x3] : List Value).toArray 30)))).cell 8 _ rfl)
 go_wp2_with (go_at_call 15;refine (KDI.out _ (codeIn_below HC.out B6.out)).mono ?_;rintro e w7 ⟨M2,b2,k,x,rfl,hl,hg,hr,hb⟩;have X7:=Lib.hid hb;have B7:=Lib.hid (bl_trans B6.out hb);have R2:=Lib.hid hr.rd;have LN2:=Lib.hid hl;clear hr hl hg;have NV:=Lib.hid (blk_new w7 27 [.slice M2.a1 b2.st.length M2.c1,.slice M2.a2 b2.bt.length M2.c2,.slice M2.a3 b2.pd.length M2.c3,.slice M2.a4 b2.fo.length M2.c4,.slice M2.a5 b2.ac.length M2.c5,.int .i64 b2.tu,.int .i64 b2.un,.int .i64 b2.ra,.int .i64 b2.li]);have B8:=Lib.hid (bl_trans B7.out (bl_alloc (bl_refl w7) (.cells ([.slice M2.a1 b2.st.length M2.c1,.slice M2.a2 b2.bt.length M2.c2,.slice M2.a3 b2.pd.length M2.c3,.slice M2.a4 b2.fo.length M2.c4,.slice M2.a5 b2.ac.length M2.c5,.int .i64 b2.tu,.int .i64 b2.un,.int .i64 b2.ra,.int .i64 b2.li] : List Value).toArray 27)));have NW:=Lib.hid (blk_new (w7.alloc (.cells ([.slice M2.a1 b2.st.length M2.c1,.slice M2.a2 b2.bt.length M2.c2,.slice M2.a3 b2.pd.length M2.c3,.slice M2.a4 b2.fo.length M2.c4,.slice M2.a5 b2.ac.length M2.c5,.int .i64 b2.tu,.int .i64 b2.un,.int .i64 b2.ra,.int .i64 b2.li] : List Value).toArray 27)) 34 [.int .i64 k,.int .i64 x]);rw [World.size_alloc] at NW;have B9:=Lib.hid (bl_trans B8.out (bl_alloc (bl_refl (w7.alloc (.cells ([.slice M2.a1 b2.st.length M2.c1,.slice M2.a2 b2.bt.length M2.c2,.slice M2.a3 b2.pd.length M2.c3,.slice M2.a4 b2.fo.length M2.c4,.slice M2.a5 b2.ac.length M2.c5,.int .i64 b2.tu,.int .i64 b2.un,.int .i64 b2.ra,.int .i64 b2.li] : List Value).toArray 27))) (.cells ([.int .i64 k,.int .i64 x] : List Value).toArray 34)));clear q19 q20 q21 q22 q23 q24 q25 q26 q27)
 have KP:=Lib.hid (fun (W : World) (h : Rd5 W M2 b2)=>implIsLegal_any M2 b2 k x W h)
 have KQ:=Lib.hid (fun (W : World) (h : Rd5 W M2 b2)=>specIsLegal_any M2 b2 k x W h LN2.out.sz)
 generalize legR b2 k x = lg at *
 generalize hokb : okB b = okb at *
 have u1 : (kc != kc) = false:=by simp
 have u2 : (ob != ob) = false:=by simp
 have u3 : (okb != okb) = false:=by simp
 have u4 : (lg != lg) = false:=by simp
 have u5:=neqCh ck x1 x2 x3
 have HOK:=Lib.hid hokb
 clear hokb
 unfold bV at KP KQ

 obtain ⟨WC,eWC⟩ : ∃ WC,WC = ((w7.alloc (.cells ([.slice M2.a1 b2.st.length M2.c1,.slice M2.a2 b2.bt.length M2.c2,.slice M2.a3 b2.pd.length M2.c3,.slice M2.a4 b2.fo.length M2.c4,.slice M2.a5 b2.ac.length M2.c5,.int .i64 b2.tu,.int .i64 b2.un,.int .i64 b2.ra,.int .i64 b2.li] : List Value).toArray 27)).alloc (.cells ([.int .i64 k,.int .i64 x] : List Value).toArray 34)):=⟨_,rfl⟩
 have FNT:=Lib.hid ((((((((NT.out.below X3.out).below (bl_alloc (bl_refl w3) (.cells ([.bool ck,.int .i64 x1,.int .i64 x2,.int .i64 x3] : List Value).toArray 30))).below X5.out).below (bl_alloc (bl_refl w5) (.cells ([.bool ck,.int .i64 x1,.int .i64 x2,.int .i64 x3] : List Value).toArray 30))).below X7.out).below (bl_alloc (bl_refl w7) (.cells ([.slice M2.a1 b2.st.length M2.c1,.slice M2.a2 b2.bt.length M2.c2,.slice M2.a3 b2.pd.length M2.c3,.slice M2.a4 b2.fo.length M2.c4,.slice M2.a5 b2.ac.length M2.c5,.int .i64 b2.tu,.int .i64 b2.un,.int .i64 b2.ra,.int .i64 b2.li] : List Value).toArray 27))).below (bl_alloc (bl_refl (w7.alloc (.cells ([.slice M2.a1 b2.st.length M2.c1,.slice M2.a2 b2.bt.length M2.c2,.slice M2.a3 b2.pd.length M2.c3,.slice M2.a4 b2.fo.length M2.c4,.slice M2.a5 b2.ac.length M2.c5,.int .i64 b2.tu,.int .i64 b2.un,.int .i64 b2.ra,.int .i64 b2.li] : List Value).toArray 27))) (.cells ([.int .i64 k,.int .i64 x] : List Value).toArray 34))))
 have FNX:=Lib.hid ((((((NX.out.below X5.out).below (bl_alloc (bl_refl w5) (.cells ([.bool ck,.int .i64 x1,.int .i64 x2,.int .i64 x3] : List Value).toArray 30))).below X7.out).below (bl_alloc (bl_refl w7) (.cells ([.slice M2.a1 b2.st.length M2.c1,.slice M2.a2 b2.bt.length M2.c2,.slice M2.a3 b2.pd.length M2.c3,.slice M2.a4 b2.fo.length M2.c4,.slice M2.a5 b2.ac.length M2.c5,.int .i64 b2.tu,.int .i64 b2.un,.int .i64 b2.ra,.int .i64 b2.li] : List Value).toArray 27))).below (bl_alloc (bl_refl (w7.alloc (.cells ([.slice M2.a1 b2.st.length M2.c1,.slice M2.a2 b2.bt.length M2.c2,.slice M2.a3 b2.pd.length M2.c3,.slice M2.a4 b2.fo.length M2.c4,.slice M2.a5 b2.ac.length M2.c5,.int .i64 b2.tu,.int .i64 b2.un,.int .i64 b2.ra,.int .i64 b2.li] : List Value).toArray 27))) (.cells ([.int .i64 k,.int .i64 x] : List Value).toArray 34))))
 have FNY:=Lib.hid ((((NY.out.below X7.out).below (bl_alloc (bl_refl w7) (.cells ([.slice M2.a1 b2.st.length M2.c1,.slice M2.a2 b2.bt.length M2.c2,.slice M2.a3 b2.pd.length M2.c3,.slice M2.a4 b2.fo.length M2.c4,.slice M2.a5 b2.ac.length M2.c5,.int .i64 b2.tu,.int .i64 b2.un,.int .i64 b2.ra,.int .i64 b2.li] : List Value).toArray 27))).below (bl_alloc (bl_refl (w7.alloc (.cells ([.slice M2.a1 b2.st.length M2.c1,.slice M2.a2 b2.bt.length M2.c2,.slice M2.a3 b2.pd.length M2.c3,.slice M2.a4 b2.fo.length M2.c4,.slice M2.a5 b2.ac.length M2.c5,.int .i64 b2.tu,.int .i64 b2.un,.int .i64 b2.ra,.int .i64 b2.li] : List Value).toArray 27))) (.cells ([.int .i64 k,.int .i64 x] : List Value).toArray 34))))
 have FNV:=Lib.hid ((NV.out.below (bl_alloc (bl_refl (w7.alloc (.cells ([.slice M2.a1 b2.st.length M2.c1,.slice M2.a2 b2.bt.length M2.c2,.slice M2.a3 b2.pd.length M2.c3,.slice M2.a4 b2.fo.length M2.c4,.slice M2.a5 b2.ac.length M2.c5,.int .i64 b2.tu,.int .i64 b2.un,.int .i64 b2.ra,.int .i64 b2.li] : List Value).toArray 27))) (.cells ([.int .i64 k,.int .i64 x] : List Value).toArray 34))))
 have FNW:=Lib.hid (NW.out)
 have FR1:=Lib.hid (((((((((R1.out.below (bl_alloc (bl_refl w1) (.cells ([.slice M.a1 b.st.length M.c1,.slice M.a2 b.bt.length M.c2,.slice M.a3 b.pd.length M.c3,.slice M.a4 b.fo.length M.c4,.slice M.a5 b.ac.length M.c5,.int .i64 b.tu,.int .i64 b.un,.int .i64 b.ra,.int .i64 b.li] : List Value).toArray 27))).below X3.out).below (bl_alloc (bl_refl w3) (.cells ([.bool ck,.int .i64 x1,.int .i64 x2,.int .i64 x3] : List Value).toArray 30))).below X5.out).below (bl_alloc (bl_refl w5) (.cells ([.bool ck,.int .i64 x1,.int .i64 x2,.int .i64 x3] : List Value).toArray 30))).below X7.out).below (bl_alloc (bl_refl w7) (.cells ([.slice M2.a1 b2.st.length M2.c1,.slice M2.a2 b2.bt.length M2.c2,.slice M2.a3 b2.pd.length M2.c3,.slice M2.a4 b2.fo.length M2.c4,.slice M2.a5 b2.ac.length M2.c5,.int .i64 b2.tu,.int .i64 b2.un,.int .i64 b2.ra,.int .i64 b2.li] : List Value).toArray 27))).below (bl_alloc (bl_refl (w7.alloc (.cells ([.slice M2.a1 b2.st.length M2.c1,.slice M2.a2 b2.bt.length M2.c2,.slice M2.a3 b2.pd.length M2.c3,.slice M2.a4 b2.fo.length M2.c4,.slice M2.a5 b2.ac.length M2.c5,.int .i64 b2.tu,.int .i64 b2.un,.int .i64 b2.ra,.int .i64 b2.li] : List Value).toArray 27))) (.cells ([.int .i64 k,.int .i64 x] : List Value).toArray 34))))
 have FR2:=Lib.hid (((R2.out.below (bl_alloc (bl_refl w7) (.cells ([.slice M2.a1 b2.st.length M2.c1,.slice M2.a2 b2.bt.length M2.c2,.slice M2.a3 b2.pd.length M2.c3,.slice M2.a4 b2.fo.length M2.c4,.slice M2.a5 b2.ac.length M2.c5,.int .i64 b2.tu,.int .i64 b2.un,.int .i64 b2.ra,.int .i64 b2.li] : List Value).toArray 27))).below (bl_alloc (bl_refl (w7.alloc (.cells ([.slice M2.a1 b2.st.length M2.c1,.slice M2.a2 b2.bt.length M2.c2,.slice M2.a3 b2.pd.length M2.c3,.slice M2.a4 b2.fo.length M2.c4,.slice M2.a5 b2.ac.length M2.c5,.int .i64 b2.tu,.int .i64 b2.un,.int .i64 b2.ra,.int .i64 b2.li] : List Value).toArray 27))) (.cells ([.int .i64 k,.int .i64 x] : List Value).toArray 34))))
 have BC:=Lib.hid B9.out
 try rw [← eWC] at FNT FNX FNY FNV FNW FR1 FR2 BC
 simp only [List.toArray] at eWC
 try rw [← eWC]
 clear eWC
 refine wp_region_W (last:=30) (k:=30) hmx rfl (fun HC0=>?_)
 refine wpAnyR_takeL (i:=0) (kw:=9) (v:=.int .i64 kc) (fun _=>bl_refl _) (fun p q=>bl_trans p q) rfl rfl (by kernel_rfl) (by kernel_rfl) (by kernel_rfl) (by kernel_rfl) (fun _ _ _ h=>h) HC0 (Or.inl ⟨by kernel_rfl,fun W' hI=>?_⟩) (fun HC1=>?_)
 ·exact .inl (by go_simp)
 refine wpAnyR_takeL (i:=1) (kw:=9) (v:=.int .i64 kc) (fun _=>bl_refl _) (fun p q=>bl_trans p q) rfl rfl (by kernel_rfl) (by kernel_rfl) (by kernel_rfl) (by kernel_rfl) (fun _ _ _ h=>h) HC1 (Or.inl ⟨by kernel_rfl,fun W' hI=>?_⟩) (fun HC2=>?_)
 ·exact .inl (by go_simp)
 refine wpAnyR_takeL (i:=2) (kw:=8) (v:=.bool false) (fun _=>bl_refl _) (fun p q=>bl_trans p q) rfl rfl (by kernel_rfl) (by kernel_rfl) (by kernel_rfl) (by kernel_rfl) (fun _ _ _ h=>h) HC2 (Or.inl ⟨by kernel_rfl,fun W' hI=>?_⟩) (fun HC3=>?_)
 ·exact .inl (by go_simp)
 refine wpAnyR_takeL (i:=3) (kw:=7) (v:=.bool false) (fun _=>bl_refl _) (fun p q=>bl_trans p q) rfl rfl (by kernel_rfl) (by kernel_rfl) (by kernel_rfl) (by kernel_rfl) (fun _ _ _ h=>h) HC3 (Or.inl ⟨by kernel_rfl,fun W' hI=>?_⟩) (fun HC4=>?_)
 ·exact .inl (by go_simp)
 refine wpAnyR_takeL (i:=4) (kw:=8) (v:=.agg #[.bool ck,.int .i64 x1,.int .i64 x2,.int .i64 x3]) (fun _=>bl_refl _) (fun p q=>bl_trans p q) rfl rfl (by kernel_rfl) (by kernel_rfl) (by kernel_rfl) (by kernel_rfl) (fun _ _ _ h=>h) HC4 (Or.inl ⟨by kernel_rfl,fun W' hI=>?_⟩) (fun HC5=>?_)
 ·have hv:=(FNX.out).below hI
  obtain ⟨z0,_⟩:=hv.cell 0 _ rfl
  obtain ⟨z1,_⟩:=hv.cell 1 _ rfl
  obtain ⟨z2,_⟩:=hv.cell 2 _ rfl
  obtain ⟨z3,_⟩:=hv.cell 3 _ rfl
  exact .inl (by go_simp)
 refine wpAnyR_takeL (i:=5) (kw:=8) (v:=.agg #[.bool ck,.int .i64 x1,.int .i64 x2,.int .i64 x3]) (fun _=>bl_refl _) (fun p q=>bl_trans p q) rfl rfl (by kernel_rfl) (by kernel_rfl) (by kernel_rfl) (by kernel_rfl) (fun _ _ _ h=>h) HC5 (Or.inl ⟨by kernel_rfl,fun W' hI=>?_⟩) (fun HC6=>?_)
 ·have hv:=(FNY.out).below hI
  obtain ⟨z0,_⟩:=hv.cell 0 _ rfl
  obtain ⟨z1,_⟩:=hv.cell 1 _ rfl
  obtain ⟨z2,_⟩:=hv.cell 2 _ rfl
  obtain ⟨z3,_⟩:=hv.cell 3 _ rfl
  exact .inl (by go_simp)
 refine wpAnyR_takeL (i:=6) (kw:=7) (v:=.bool false) (fun _=>bl_refl _) (fun p q=>bl_trans p q) rfl rfl (by kernel_rfl) (by kernel_rfl) (by kernel_rfl) (by kernel_rfl) (fun _ _ _ h=>h) HC6 (Or.inl ⟨by kernel_rfl,fun W' hI=>?_⟩) (fun HC7=>?_)
 ·exact .inl (by go_simp)
 refine wpAnyR_takeL (i:=7) (kw:=6) (v:=.bool false) (fun _=>bl_refl _) (fun p q=>bl_trans p q) rfl rfl (by kernel_rfl) (by kernel_rfl) (by kernel_rfl) (by kernel_rfl) (fun _ _ _ h=>h) HC7 (Or.inl ⟨by kernel_rfl,fun W' hI=>?_⟩) (fun HC8=>?_)
 ·exact .inl (by go_simp)
 refine wpAnyR_takeL (i:=8) (kw:=5) (v:=.bool false) (fun _=>bl_refl _) (fun p q=>bl_trans p q) rfl rfl (by kernel_rfl) (by kernel_rfl) (by kernel_rfl) (by kernel_rfl) (fun _ _ _ h=>h) HC8 (Or.inl ⟨by kernel_rfl,fun W' hI=>?_⟩) (fun HC9=>?_)
 ·exact .inl (by go_simp)
 refine wpAnyR_takeL (i:=9) (kw:=7) (v:=.agg #[.slice M.a1 b.st.length M.c1,.slice M.a2 b.bt.length M.c2,.slice M.a3 b.pd.length M.c3,.slice M.a4 b.fo.length M.c4,.slice M.a5 b.ac.length M.c5,.int .i64 b.tu,.int .i64 b.un,.int .i64 b.ra,.int .i64 b.li]) (fun _=>bl_refl _) (fun p q=>bl_trans p q) rfl rfl (by kernel_rfl) (by kernel_rfl) (by kernel_rfl) (by kernel_rfl) (fun _ _ _ h=>h) HC9 (Or.inl ⟨by kernel_rfl,fun W' hI=>?_⟩) (fun HC10=>?_)
 ·have hv:=(FNT.out).below hI
  obtain ⟨z0,_⟩:=hv.cell 0 _ rfl
  obtain ⟨z1,_⟩:=hv.cell 1 _ rfl
  obtain ⟨z2,_⟩:=hv.cell 2 _ rfl
  obtain ⟨z3,_⟩:=hv.cell 3 _ rfl
  obtain ⟨z4,_⟩:=hv.cell 4 _ rfl
  obtain ⟨z5,_⟩:=hv.cell 5 _ rfl
  obtain ⟨z6,_⟩:=hv.cell 6 _ rfl
  obtain ⟨z7,_⟩:=hv.cell 7 _ rfl
  obtain ⟨z8,_⟩:=hv.cell 8 _ rfl
  exact .inl (by go_simp)
 refine wpAnyR_takeL (i:=10) (kw:=6) (v:=.bool ob) (fun _=>bl_refl _) (fun p q=>bl_trans p q) rfl rfl (by kernel_rfl) (by kernel_rfl) (by kernel_rfl) (by kernel_rfl) (fun _ _ _ h=>h) HC10 (Or.inl ⟨by kernel_rfl,fun W' hI=>?_⟩) (fun HC11=>?_)
 ·exact .inr ⟨16,#[.agg #[.slice M.a1 b.st.length M.c1,.slice M.a2 b.bt.length M.c2,.slice M.a3 b.pd.length M.c3,.slice M.a4 b.fo.length M.c4,.slice M.a5 b.ac.length M.c5,.int .i64 b.tu,.int .i64 b.un,.int .i64 b.ra,.int .i64 b.li]],by go_simp,KO.out W' (FR1.out.below hI)⟩
 refine wpAnyR_takeL (i:=11) (kw:=7) (v:=.int .i64 kc) (fun _=>bl_refl _) (fun p q=>bl_trans p q) rfl rfl (by kernel_rfl) (by kernel_rfl) (by kernel_rfl) (by kernel_rfl) (fun _ _ _ h=>h) HC11 (Or.inl ⟨by kernel_rfl,fun W' hI=>?_⟩) (fun HC12=>?_)
 ·exact .inl (by go_simp)
 refine wpAnyR_takeL (i:=12) (kw:=6) (v:=.bool ob) (fun _=>bl_refl _) (fun p q=>bl_trans p q) rfl rfl (by kernel_rfl) (by kernel_rfl) (by kernel_rfl) (by kernel_rfl) (fun _ _ _ h=>h) HC12 (Or.inl ⟨by kernel_rfl,fun W' hI=>?_⟩) (fun HC13=>?_)
 ·exact .inl (by go_simp)
 refine wpAnyR_takeL (i:=13) (kw:=5) (v:=.bool false) (fun _=>bl_refl _) (fun p q=>bl_trans p q) rfl rfl (by kernel_rfl) (by kernel_rfl) (by kernel_rfl) (by kernel_rfl) (fun _ _ _ h=>h) HC13 (Or.inl ⟨by kernel_rfl,fun W' hI=>?_⟩) (fun HC14=>?_)
 ·exact .inl (by go_simp)
 refine wpAnyR_takeL (i:=14) (kw:=4) (v:=.bool false) (fun _=>bl_refl _) (fun p q=>bl_trans p q) rfl rfl (by kernel_rfl) (by kernel_rfl) (by kernel_rfl) (by kernel_rfl) (fun _ _ _ h=>h) HC14 (Or.inl ⟨by kernel_rfl,fun W' hI=>?_⟩) (fun HC15=>?_)
 ·exact .inl (by go_simp)
 refine wpAnyR_takeL (i:=15) (kw:=3) (v:=.bool false) (fun _=>bl_refl _) (fun p q=>bl_trans p q) rfl rfl (by kernel_rfl) (by kernel_rfl) (by kernel_rfl) (by kernel_rfl) (fun _ _ _ h=>h) HC15 (Or.inl ⟨by kernel_rfl,fun W' hI=>?_⟩) (fun HC16=>?_)
 ·exact .inl (by go_simp)
 refine wpAnyR_takeL (i:=16) (kw:=5) (v:=.agg #[.slice M.a1 b.st.length M.c1,.slice M.a2 b.bt.length M.c2,.slice M.a3 b.pd.length M.c3,.slice M.a4 b.fo.length M.c4,.slice M.a5 b.ac.length M.c5,.int .i64 b.tu,.int .i64 b.un,.int .i64 b.ra,.int .i64 b.li]) (fun _=>bl_refl _) (fun p q=>bl_trans p q) rfl rfl (by kernel_rfl) (by kernel_rfl) (by kernel_rfl) (by kernel_rfl) (fun _ _ _ h=>h) HC16 (Or.inl ⟨by kernel_rfl,fun W' hI=>?_⟩) (fun HC17=>?_)
 ·have hv:=(FNT.out).below hI
  obtain ⟨z0,_⟩:=hv.cell 0 _ rfl
  obtain ⟨z1,_⟩:=hv.cell 1 _ rfl
  obtain ⟨z2,_⟩:=hv.cell 2 _ rfl
  obtain ⟨z3,_⟩:=hv.cell 3 _ rfl
  obtain ⟨z4,_⟩:=hv.cell 4 _ rfl
  obtain ⟨z5,_⟩:=hv.cell 5 _ rfl
  obtain ⟨z6,_⟩:=hv.cell 6 _ rfl
  obtain ⟨z7,_⟩:=hv.cell 7 _ rfl
  obtain ⟨z8,_⟩:=hv.cell 8 _ rfl
  exact .inl (by go_simp)
 refine wpAnyR_takeL (i:=17) (kw:=4) (v:=.bool okb) (fun _=>bl_refl _) (fun p q=>bl_trans p q) rfl rfl (by kernel_rfl) (by kernel_rfl) (by kernel_rfl) (by kernel_rfl) (fun _ _ _ h=>h) HC17 (Or.inl ⟨by kernel_rfl,fun W' hI=>?_⟩) (fun HC18=>?_)
 ·exact .inr ⟨17,#[.agg #[.slice M.a1 b.st.length M.c1,.slice M.a2 b.bt.length M.c2,.slice M.a3 b.pd.length M.c3,.slice M.a4 b.fo.length M.c4,.slice M.a5 b.ac.length M.c5,.int .i64 b.tu,.int .i64 b.un,.int .i64 b.ra,.int .i64 b.li]],by go_simp,KI.out W' (FR1.out.below hI)⟩
 refine wpAnyR_takeL (i:=18) (kw:=5) (v:=.agg #[.slice M.a1 b.st.length M.c1,.slice M.a2 b.bt.length M.c2,.slice M.a3 b.pd.length M.c3,.slice M.a4 b.fo.length M.c4,.slice M.a5 b.ac.length M.c5,.int .i64 b.tu,.int .i64 b.un,.int .i64 b.ra,.int .i64 b.li]) (fun _=>bl_refl _) (fun p q=>bl_trans p q) rfl rfl (by kernel_rfl) (by kernel_rfl) (by kernel_rfl) (by kernel_rfl) (fun _ _ _ h=>h) HC18 (Or.inl ⟨by kernel_rfl,fun W' hI=>?_⟩) (fun HC19=>?_)
 ·have hv:=(FNT.out).below hI
  obtain ⟨z0,_⟩:=hv.cell 0 _ rfl
  obtain ⟨z1,_⟩:=hv.cell 1 _ rfl
  obtain ⟨z2,_⟩:=hv.cell 2 _ rfl
  obtain ⟨z3,_⟩:=hv.cell 3 _ rfl
  obtain ⟨z4,_⟩:=hv.cell 4 _ rfl
  obtain ⟨z5,_⟩:=hv.cell 5 _ rfl
  obtain ⟨z6,_⟩:=hv.cell 6 _ rfl
  obtain ⟨z7,_⟩:=hv.cell 7 _ rfl
  obtain ⟨z8,_⟩:=hv.cell 8 _ rfl
  exact .inl (by go_simp)
 refine wpAnyR_takeL (i:=19) (kw:=4) (v:=.bool okb) (fun _=>bl_refl _) (fun p q=>bl_trans p q) rfl rfl (by kernel_rfl) (by kernel_rfl) (by kernel_rfl) (by kernel_rfl) (fun _ _ _ h=>h) HC19 (Or.inl ⟨by kernel_rfl,fun W' hI=>?_⟩) (fun HC20=>?_)
 ·exact .inr ⟨18,#[.agg #[.slice M.a1 b.st.length M.c1,.slice M.a2 b.bt.length M.c2,.slice M.a3 b.pd.length M.c3,.slice M.a4 b.fo.length M.c4,.slice M.a5 b.ac.length M.c5,.int .i64 b.tu,.int .i64 b.un,.int .i64 b.ra,.int .i64 b.li]],by go_simp,KJ.out W' (FR1.out.below hI)⟩
 refine wpAnyR_takeL (i:=20) (kw:=3) (v:=.bool false) (fun _=>bl_refl _) (fun p q=>bl_trans p q) rfl rfl (by kernel_rfl) (by kernel_rfl) (by kernel_rfl) (by kernel_rfl) (fun _ _ _ h=>h) HC20 (Or.inl ⟨by kernel_rfl,fun W' hI=>?_⟩) (fun HC21=>?_)
 ·exact .inl (by go_simp)
 refine wpAnyR_takeL (i:=21) (kw:=2) (v:=.bool false) (fun _=>bl_refl _) (fun p q=>bl_trans p q) rfl rfl (by kernel_rfl) (by kernel_rfl) (by kernel_rfl) (by kernel_rfl) (fun _ _ _ h=>h) HC21 (Or.inl ⟨by kernel_rfl,fun W' hI=>?_⟩) (fun HC22=>?_)
 ·exact .inl (by go_simp)
 refine wpAnyR_takeL (i:=22) (kw:=1) (v:=.bool false) (fun _=>bl_refl _) (fun p q=>bl_trans p q) rfl rfl (by kernel_rfl) (by kernel_rfl) (by kernel_rfl) (by kernel_rfl) (fun _ _ _ h=>h) HC22 (Or.inl ⟨by kernel_rfl,fun W' hI=>?_⟩) (fun HC23=>?_)
 ·exact .inl (by go_simp)
 refine wpAnyR_takeL (i:=23) (kw:=3) (v:=.agg #[.slice M2.a1 b2.st.length M2.c1,.slice M2.a2 b2.bt.length M2.c2,.slice M2.a3 b2.pd.length M2.c3,.slice M2.a4 b2.fo.length M2.c4,.slice M2.a5 b2.ac.length M2.c5,.int .i64 b2.tu,.int .i64 b2.un,.int .i64 b2.ra,.int .i64 b2.li]) (fun _=>bl_refl _) (fun p q=>bl_trans p q) rfl rfl (by kernel_rfl) (by kernel_rfl) (by kernel_rfl) (by kernel_rfl) (fun _ _ _ h=>h) HC23 (Or.inl ⟨by kernel_rfl,fun W' hI=>?_⟩) (fun HC24=>?_)
 ·have hv:=(FNV.out).below hI
  obtain ⟨z0,_⟩:=hv.cell 0 _ rfl
  obtain ⟨z1,_⟩:=hv.cell 1 _ rfl
  obtain ⟨z2,_⟩:=hv.cell 2 _ rfl
  obtain ⟨z3,_⟩:=hv.cell 3 _ rfl
  obtain ⟨z4,_⟩:=hv.cell 4 _ rfl
  obtain ⟨z5,_⟩:=hv.cell 5 _ rfl
  obtain ⟨z6,_⟩:=hv.cell 6 _ rfl
  obtain ⟨z7,_⟩:=hv.cell 7 _ rfl
  obtain ⟨z8,_⟩:=hv.cell 8 _ rfl
  exact .inl (by go_simp)
 refine wpAnyR_takeL (i:=24) (kw:=3) (v:=.agg #[.int .i64 k,.int .i64 x]) (fun _=>bl_refl _) (fun p q=>bl_trans p q) rfl rfl (by kernel_rfl) (by kernel_rfl) (by kernel_rfl) (by kernel_rfl) (fun _ _ _ h=>h) HC24 (Or.inl ⟨by kernel_rfl,fun W' hI=>?_⟩) (fun HC25=>?_)
 ·have hv:=(FNW.out).below hI
  obtain ⟨z0,_⟩:=hv.cell 0 _ rfl
  obtain ⟨z1,_⟩:=hv.cell 1 _ rfl
  exact .inl (by go_simp)
 refine wpAnyR_takeL (i:=25) (kw:=2) (v:=.bool lg) (fun _=>bl_refl _) (fun p q=>bl_trans p q) rfl rfl (by kernel_rfl) (by kernel_rfl) (by kernel_rfl) (by kernel_rfl) (fun _ _ _ h=>h) HC25 (Or.inl ⟨by kernel_rfl,fun W' hI=>?_⟩) (fun HC26=>?_)
 ·exact .inr ⟨19,#[.agg #[.slice M2.a1 b2.st.length M2.c1,.slice M2.a2 b2.bt.length M2.c2,.slice M2.a3 b2.pd.length M2.c3,.slice M2.a4 b2.fo.length M2.c4,.slice M2.a5 b2.ac.length M2.c5,.int .i64 b2.tu,.int .i64 b2.un,.int .i64 b2.ra,.int .i64 b2.li],.agg #[.int .i64 k,.int .i64 x]],by go_simp,KP.out W' (FR2.out.below hI)⟩
 refine wpAnyR_takeL (i:=26) (kw:=3) (v:=.agg #[.slice M2.a1 b2.st.length M2.c1,.slice M2.a2 b2.bt.length M2.c2,.slice M2.a3 b2.pd.length M2.c3,.slice M2.a4 b2.fo.length M2.c4,.slice M2.a5 b2.ac.length M2.c5,.int .i64 b2.tu,.int .i64 b2.un,.int .i64 b2.ra,.int .i64 b2.li]) (fun _=>bl_refl _) (fun p q=>bl_trans p q) rfl rfl (by kernel_rfl) (by kernel_rfl) (by kernel_rfl) (by kernel_rfl) (fun _ _ _ h=>h) HC26 (Or.inl ⟨by kernel_rfl,fun W' hI=>?_⟩) (fun HC27=>?_)
 ·have hv:=(FNV.out).below hI
  obtain ⟨z0,_⟩:=hv.cell 0 _ rfl
  obtain ⟨z1,_⟩:=hv.cell 1 _ rfl
  obtain ⟨z2,_⟩:=hv.cell 2 _ rfl
  obtain ⟨z3,_⟩:=hv.cell 3 _ rfl
  obtain ⟨z4,_⟩:=hv.cell 4 _ rfl
  obtain ⟨z5,_⟩:=hv.cell 5 _ rfl
  obtain ⟨z6,_⟩:=hv.cell 6 _ rfl
  obtain ⟨z7,_⟩:=hv.cell 7 _ rfl
  obtain ⟨z8,_⟩:=hv.cell 8 _ rfl
  exact .inl (by go_simp)
 refine wpAnyR_takeL (i:=27) (kw:=3) (v:=.agg #[.int .i64 k,.int .i64 x]) (fun _=>bl_refl _) (fun p q=>bl_trans p q) rfl rfl (by kernel_rfl) (by kernel_rfl) (by kernel_rfl) (by kernel_rfl) (fun _ _ _ h=>h) HC27 (Or.inl ⟨by kernel_rfl,fun W' hI=>?_⟩) (fun HC28=>?_)
 ·have hv:=(FNW.out).below hI
  obtain ⟨z0,_⟩:=hv.cell 0 _ rfl
  obtain ⟨z1,_⟩:=hv.cell 1 _ rfl
  exact .inl (by go_simp)
 refine wpAnyR_takeL (i:=28) (kw:=2) (v:=.bool lg) (fun _=>bl_refl _) (fun p q=>bl_trans p q) rfl rfl (by kernel_rfl) (by kernel_rfl) (by kernel_rfl) (by kernel_rfl) (fun _ _ _ h=>h) HC28 (Or.inl ⟨by kernel_rfl,fun W' hI=>?_⟩) (fun HC29=>?_)
 ·exact .inr ⟨20,#[.agg #[.slice M2.a1 b2.st.length M2.c1,.slice M2.a2 b2.bt.length M2.c2,.slice M2.a3 b2.pd.length M2.c3,.slice M2.a4 b2.fo.length M2.c4,.slice M2.a5 b2.ac.length M2.c5,.int .i64 b2.tu,.int .i64 b2.un,.int .i64 b2.ra,.int .i64 b2.li],.agg #[.int .i64 k,.int .i64 x]],by go_simp,KQ.out W' (FR2.out.below hI)⟩
 refine wpAnyR_takeL (i:=29) (kw:=1) (v:=.bool false) (fun _=>bl_refl _) (fun p q=>bl_trans p q) rfl rfl (by kernel_rfl) (by kernel_rfl) (by kernel_rfl) (by kernel_rfl) (fun _ _ _ h=>h) HC29 (Or.inl ⟨by kernel_rfl,fun W' hI=>?_⟩) (fun HC30=>?_)
 ·exact .inl (by go_simp)
 refine wpAnyR_lastL (by kernel_rfl) (by kernel_rfl) rfl (by kernel_rfl) (fun wR hrR=>⟨bl_drewT hrR,?_⟩)
 intro K hK
 have BR:=Lib.hid (bl_drewT hrR)
 clear hrR
 go_simp
 refine hK _ _ ?_
 clear hK K
 have BR0:=Lib.hid (bl_trans BC.out BR.out)
 have GNT:=Lib.hid (FNT.out.below BR.out)
 have GNX:=Lib.hid (FNX.out.below BR.out)
 have GR1:=Lib.hid (FR1.out.below BR.out)
 clear FNT FNX FNY FNV FNW FR1 FR2 BC BR KO KI KJ KP KQ u1 u2 u3 u4 u5 e0
 rcases HF2.out with hk0 | ⟨rfl,q1,q2,f1,f2,f3,f4,f5,f6,f7,f8,f9,f10,f11,f12⟩
 ·have u6 : (kc != 0) = true:=by simpa using hk0
  clear hk0
  go_wp2_with fail
  exact bodyPost_ret (v:=.bool true) (by simp [results,Try.results3,go_sem]) rfl ⟨rfl,BR0.out⟩
 have hcs:=HCO.out rfl q1 q2
 simp only [Value.agg.injEq,Array.mk.injEq,List.cons.injEq,Value.bool.injEq,Value.int.injEq,true_and,and_true] at hcs
 obtain ⟨c1,c2,c3,c4⟩:=hcs
 rw [← c1] at f2 f3 f4
 rw [← c2] at f4 f6 f11 f12
 rw [← c3] at f5 f6
 rw [← c4] at f5 f6
 obtain ⟨i,hti⟩:=Int.eq_ofNat_of_zero_le f7
 rw [hti] at f6 f8 f9 f10
 rw [Int.toNat_natCast] at f6 f9 f10
 have HT:=Lib.hid hti
 have F5:=Lib.hid f5
 have F6:=Lib.hid f6
 clear hti f5 f6 c1 c2 c3 c4 q1 q2 HCO HOK HF2
 obtain ⟨b2',o2',e2',hc2⟩:=GR1.out.r2.at_0 i (by omega)
 have E2:=Lib.hid e2'
 have HQ2:=Lib.hid hc2
 have f8' : (i : Int) < b.bt.length:=f8
 have BR1:=Lib.hid (bl_refl wR)
 clear e2' hc2 f8 f7
 generalize nth b.bt i = y at *
 have NTb:=GNT.out
 have NXb:=GNX.out
 obtain ⟨q0,-⟩:=NTb.cell 0 _ rfl
 obtain ⟨q1,-⟩:=NTb.cell 1 _ rfl
 obtain ⟨q2,-⟩:=NTb.cell 2 _ rfl
 obtain ⟨q3,-⟩:=NTb.cell 3 _ rfl
 obtain ⟨q4,-⟩:=NTb.cell 4 _ rfl
 obtain ⟨q5,-⟩:=NTb.cell 5 _ rfl
 obtain ⟨q6,-⟩:=NTb.cell 6 _ rfl
 obtain ⟨q7,-⟩:=NTb.cell 7 _ rfl
 obtain ⟨q8,-⟩:=NTb.cell 8 _ rfl
 obtain ⟨r0,-⟩:=NXb.cell 0 _ rfl
 obtain ⟨r1,-⟩:=NXb.cell 1 _ rfl
 obtain ⟨r2,-⟩:=NXb.cell 2 _ rfl
 obtain ⟨r3,-⟩:=NXb.cell 3 _ rfl
 clear NTb NXb
 have v1 : (!ck == !ck) = true:=by simp
 have v2 : (ck == !ck) = false:=by cases ck <;> rfl
 have v3 : (ck != ck) = false:=by simp
 have v4 : ((!ck) != decide (x1 > 0)) = false:=by rw [show decide (x1 > 0) = !ck from f4];simp
 by_cases h0 : x3 = 0
 ·have d90:=F5.out h0
  subst h0 d90
  go_wp2_with (first
   | (go_at_call 19;(with_reducible refine (KL.out 1 0 _ GR1.out).mono ?_);rw [f2];rintro e wl1 ⟨rfl,hb⟩;have G1NT:=Lib.hid (GNT.out.below hb);have G1NX:=Lib.hid (GNX.out.below hb);have G1R1:=Lib.hid (GR1.out.below hb);have BL1:=Lib.hid (bl_trans BR0.out hb);have BM1:=Lib.hid (bl_trans BR1.out hb);clear hb q0 q1 q2 q3 q4 q5 q6 q7 q8 r0 r1 r2 r3;have NTb:=G1NT.out;have NXb:=G1NX.out;obtain ⟨q0,-⟩:=NTb.cell 0 _ rfl;obtain ⟨q1,-⟩:=NTb.cell 1 _ rfl;obtain ⟨q2,-⟩:=NTb.cell 2 _ rfl;obtain ⟨q3,-⟩:=NTb.cell 3 _ rfl;obtain ⟨q4,-⟩:=NTb.cell 4 _ rfl;obtain ⟨q5,-⟩:=NTb.cell 5 _ rfl;obtain ⟨q6,-⟩:=NTb.cell 6 _ rfl;obtain ⟨q7,-⟩:=NTb.cell 7 _ rfl;obtain ⟨q8,-⟩:=NTb.cell 8 _ rfl;obtain ⟨r0,-⟩:=NXb.cell 0 _ rfl;obtain ⟨r1,-⟩:=NXb.cell 1 _ rfl;obtain ⟨r2,-⟩:=NXb.cell 2 _ rfl;obtain ⟨r3,-⟩:=NXb.cell 3 _ rfl;clear NTb NXb)
   | (go_at_call 19;(with_reducible refine (KL.out 2 0 _ G1R1.out).mono ?_);rw [f3];rintro e wl2 ⟨rfl,hb⟩;have G2NT:=Lib.hid (G1NT.out.below hb);have G2NX:=Lib.hid (G1NX.out.below hb);have G2R1:=Lib.hid (G1R1.out.below hb);have BL2:=Lib.hid (bl_trans BL1.out hb);have BM2:=Lib.hid (bl_trans BM1.out hb);clear hb q0 q1 q2 q3 q4 q5 q6 q7 q8 r0 r1 r2 r3;have NTb:=G2NT.out;have NXb:=G2NX.out;obtain ⟨q0,-⟩:=NTb.cell 0 _ rfl;obtain ⟨q1,-⟩:=NTb.cell 1 _ rfl;obtain ⟨q2,-⟩:=NTb.cell 2 _ rfl;obtain ⟨q3,-⟩:=NTb.cell 3 _ rfl;obtain ⟨q4,-⟩:=NTb.cell 4 _ rfl;obtain ⟨q5,-⟩:=NTb.cell 5 _ rfl;obtain ⟨q6,-⟩:=NTb.cell 6 _ rfl;obtain ⟨q7,-⟩:=NTb.cell 7 _ rfl;obtain ⟨q8,-⟩:=NTb.cell 8 _ rfl;obtain ⟨r0,-⟩:=NXb.cell 0 _ rfl;obtain ⟨r1,-⟩:=NXb.cell 1 _ rfl;obtain ⟨r2,-⟩:=NXb.cell 2 _ rfl;obtain ⟨r3,-⟩:=NXb.cell 3 _ rfl;clear NTb NXb)
   | (go_at_call 19;(with_reducible refine (KL.out 0 0 _ G2R1.out).mono ?_);rw [f1];rintro e wl3 ⟨rfl,hb⟩;have G3NT:=Lib.hid (G2NT.out.below hb);have G3NX:=Lib.hid (G2NX.out.below hb);have G3R1:=Lib.hid (G2R1.out.below hb);have BL3:=Lib.hid (bl_trans BL2.out hb);have BM3:=Lib.hid (bl_trans BM2.out hb);clear hb q0 q1 q2 q3 q4 q5 q6 q7 q8 r0 r1 r2 r3;have NTb:=G3NT.out;have NXb:=G3NX.out;obtain ⟨q0,-⟩:=NTb.cell 0 _ rfl;obtain ⟨q1,-⟩:=NTb.cell 1 _ rfl;obtain ⟨q2,-⟩:=NTb.cell 2 _ rfl;obtain ⟨q3,-⟩:=NTb.cell 3 _ rfl;obtain ⟨q4,-⟩:=NTb.cell 4 _ rfl;obtain ⟨q5,-⟩:=NTb.cell 5 _ rfl;obtain ⟨q6,-⟩:=NTb.cell 6 _ rfl;obtain ⟨q7,-⟩:=NTb.cell 7 _ rfl;obtain ⟨q8,-⟩:=NTb.cell 8 _ rfl;obtain ⟨r0,-⟩:=NXb.cell 0 _ rfl;obtain ⟨r1,-⟩:=NXb.cell 1 _ rfl;obtain ⟨r2,-⟩:=NXb.cell 2 _ rfl;obtain ⟨r3,-⟩:=NXb.cell 3 _ rfl;clear NTb NXb))
  exact bodyPost_ret (v:=.bool true) (by simp [results,Try.results3,go_sem]) rfl ⟨rfl,BL3.out⟩
 obtain ⟨m1,m2,m3,m4⟩:=F6.out h0
 have d90 : (x3 == 0) = false:=by simpa using h0
 have d91 : decide (x2 ≤ x3) = true:=decide_eq_true m1
 have d92 : decide (y + x1 < x2) = true:=decide_eq_true m2
 have M3:=Lib.hid m3
 have M4:=Lib.hid m4
 clear m3 m4 h0
 go_wp2_with (first
   | (go_at_call 19;(with_reducible refine (KL.out 1 0 _ GR1.out).mono ?_);rw [f2];rintro e wl1 ⟨rfl,hb⟩;have G1NT:=Lib.hid (GNT.out.below hb);have G1NX:=Lib.hid (GNX.out.below hb);have G1R1:=Lib.hid (GR1.out.below hb);have BL1:=Lib.hid (bl_trans BR0.out hb);have BM1:=Lib.hid (bl_trans BR1.out hb);clear hb q0 q1 q2 q3 q4 q5 q6 q7 q8 r0 r1 r2 r3;have NTb:=G1NT.out;have NXb:=G1NX.out;obtain ⟨q0,-⟩:=NTb.cell 0 _ rfl;obtain ⟨q1,-⟩:=NTb.cell 1 _ rfl;obtain ⟨q2,-⟩:=NTb.cell 2 _ rfl;obtain ⟨q3,-⟩:=NTb.cell 3 _ rfl;obtain ⟨q4,-⟩:=NTb.cell 4 _ rfl;obtain ⟨q5,-⟩:=NTb.cell 5 _ rfl;obtain ⟨q6,-⟩:=NTb.cell 6 _ rfl;obtain ⟨q7,-⟩:=NTb.cell 7 _ rfl;obtain ⟨q8,-⟩:=NTb.cell 8 _ rfl;obtain ⟨r0,-⟩:=NXb.cell 0 _ rfl;obtain ⟨r1,-⟩:=NXb.cell 1 _ rfl;obtain ⟨r2,-⟩:=NXb.cell 2 _ rfl;obtain ⟨r3,-⟩:=NXb.cell 3 _ rfl;clear NTb NXb)
   | (go_at_call 19;(with_reducible refine (KL.out 2 0 _ G1R1.out).mono ?_);rw [f3];rintro e wl2 ⟨rfl,hb⟩;have G2NT:=Lib.hid (G1NT.out.below hb);have G2NX:=Lib.hid (G1NX.out.below hb);have G2R1:=Lib.hid (G1R1.out.below hb);have BL2:=Lib.hid (bl_trans BL1.out hb);have BM2:=Lib.hid (bl_trans BM1.out hb);clear hb q0 q1 q2 q3 q4 q5 q6 q7 q8 r0 r1 r2 r3;have NTb:=G2NT.out;have NXb:=G2NX.out;obtain ⟨q0,-⟩:=NTb.cell 0 _ rfl;obtain ⟨q1,-⟩:=NTb.cell 1 _ rfl;obtain ⟨q2,-⟩:=NTb.cell 2 _ rfl;obtain ⟨q3,-⟩:=NTb.cell 3 _ rfl;obtain ⟨q4,-⟩:=NTb.cell 4 _ rfl;obtain ⟨q5,-⟩:=NTb.cell 5 _ rfl;obtain ⟨q6,-⟩:=NTb.cell 6 _ rfl;obtain ⟨q7,-⟩:=NTb.cell 7 _ rfl;obtain ⟨q8,-⟩:=NTb.cell 8 _ rfl;obtain ⟨r0,-⟩:=NXb.cell 0 _ rfl;obtain ⟨r1,-⟩:=NXb.cell 1 _ rfl;obtain ⟨r2,-⟩:=NXb.cell 2 _ rfl;obtain ⟨r3,-⟩:=NXb.cell 3 _ rfl;clear NTb NXb)
   | (go_at_call 19;(with_reducible refine (KL.out 0 0 _ G2R1.out).mono ?_);rw [f1];rintro e wl3 ⟨rfl,hb⟩;have G3NT:=Lib.hid (G2NT.out.below hb);have G3NX:=Lib.hid (G2NX.out.below hb);have G3R1:=Lib.hid (G2R1.out.below hb);have BL3:=Lib.hid (bl_trans BL2.out hb);have BM3:=Lib.hid (bl_trans BM2.out hb);clear hb q0 q1 q2 q3 q4 q5 q6 q7 q8 r0 r1 r2 r3;have NTb:=G3NT.out;have NXb:=G3NX.out;obtain ⟨q0,-⟩:=NTb.cell 0 _ rfl;obtain ⟨q1,-⟩:=NTb.cell 1 _ rfl;obtain ⟨q2,-⟩:=NTb.cell 2 _ rfl;obtain ⟨q3,-⟩:=NTb.cell 3 _ rfl;obtain ⟨q4,-⟩:=NTb.cell 4 _ rfl;obtain ⟨q5,-⟩:=NTb.cell 5 _ rfl;obtain ⟨q6,-⟩:=NTb.cell 6 _ rfl;obtain ⟨q7,-⟩:=NTb.cell 7 _ rfl;obtain ⟨q8,-⟩:=NTb.cell 8 _ rfl;obtain ⟨r0,-⟩:=NXb.cell 0 _ rfl;obtain ⟨r1,-⟩:=NXb.cell 1 _ rfl;obtain ⟨r2,-⟩:=NXb.cell 2 _ rfl;obtain ⟨r3,-⟩:=NXb.cell 3 _ rfl;clear NTb NXb))
 clear v1 v2 v3 v4 f1 f2 f3 f4
 have KL1:=Lib.hid (fun (W : World) (h : Rd5 W M b)=>M3.out ▸ KL.out 3 x2 W h)
 have KL2:=Lib.hid (fun (W : World) (h : Rd5 W M b)=>M4.out ▸ KL.out 3 x3 W h)
 have HQ3 : Hid (∀ W',Below wl3.heap.size wl3 W' → W'.cell? ⟨b2',o2' + i,none⟩ = some (.int .i64 y)):=Lib.hid (fun W' hI=>by
  have hq:=HQ2.out
  have h3:=bl_trans BM3.out hI
  exact (h3.cell (p:=⟨b2',o2' + i,none⟩) (World.block_lt_of_cell? _ _ hq)).trans hq)
 have GN : Hid (Blk wl3 w1.heap.size 27 [.slice M.a1 b.st.length M.c1,.slice (some ⟨b2',o2',none⟩) b.bt.length M.c2,.slice M.a3 b.pd.length M.c3,.slice M.a4 b.fo.length M.c4,.slice M.a5 b.ac.length M.c5,.int .i64 i,.int .i64 b.un,.int .i64 b.ra,.int .i64 b.li]):=Lib.hid (by have q:=G3NT.out;rw [E2.out,HT.out] at q;exact q)
 clear q0 q1 q2 q3 q4 q5 q6 q7 q8 r0 r1 r2 r3
 refine wp_region_W (last:=33) (k:=33) hmx rfl (fun HC0=>?_)
 refine wpAnyR_takeL (i:=0) (kw:=9) (v:=.pointer (some ⟨w3.heap.size,2,none⟩)) (fun _=>bl_refl _) (fun p q=>bl_trans p q) rfl rfl (by kernel_rfl) (by kernel_rfl) (by kernel_rfl) (by kernel_rfl) (fun _ _ _ h=>h) HC0 (Or.inl ⟨by kernel_rfl,fun W' hI=>?_⟩) (fun HC1=>?_)
 ·exact .inl (by go_simp)
 refine wpAnyR_takeL (i:=1) (kw:=8) (v:=.int .i64 x2) (fun _=>bl_refl _) (fun p q=>bl_trans p q) rfl rfl (by kernel_rfl) (by kernel_rfl) (by kernel_rfl) (by kernel_rfl) (fun _ _ _ h=>h) HC1 (Or.inl ⟨by kernel_rfl,fun W' hI=>?_⟩) (fun HC2=>?_)
 ·have hv:=(G3NX.out).below hI
  obtain ⟨z2,_⟩:=hv.cell 2 _ rfl
  exact .inl (by go_simp)
 refine wpAnyR_takeL (i:=2) (kw:=9) (v:=.pointer (some ⟨w3.heap.size,3,none⟩)) (fun _=>bl_refl _) (fun p q=>bl_trans p q) rfl rfl (by kernel_rfl) (by kernel_rfl) (by kernel_rfl) (by kernel_rfl) (fun _ _ _ h=>h) HC2 (Or.inl ⟨by kernel_rfl,fun W' hI=>?_⟩) (fun HC3=>?_)
 ·exact .inl (by go_simp)
 refine wpAnyR_takeL (i:=3) (kw:=8) (v:=.int .i64 x3) (fun _=>bl_refl _) (fun p q=>bl_trans p q) rfl rfl (by kernel_rfl) (by kernel_rfl) (by kernel_rfl) (by kernel_rfl) (fun _ _ _ h=>h) HC3 (Or.inl ⟨by kernel_rfl,fun W' hI=>?_⟩) (fun HC4=>?_)
 ·have hv:=(G3NX.out).below hI
  obtain ⟨z3,_⟩:=hv.cell 3 _ rfl
  exact .inl (by go_simp)
 refine wpAnyR_takeL (i:=4) (kw:=7) (v:=.bool true) (fun _=>bl_refl _) (fun p q=>bl_trans p q) rfl rfl (by kernel_rfl) (by kernel_rfl) (by kernel_rfl) (by kernel_rfl) (fun _ _ _ h=>h) HC4 (Or.inl ⟨by kernel_rfl,fun W' hI=>?_⟩) (fun HC5=>?_)
 ·exact .inl (by go_simp)
 refine wpAnyR_takeL (i:=5) (kw:=6) (v:=.bool true) (fun _=>bl_refl _) (fun p q=>bl_trans p q) rfl rfl (by kernel_rfl) (by kernel_rfl) (by kernel_rfl) (by kernel_rfl) (fun _ _ _ h=>h) HC5 (Or.inl ⟨by kernel_rfl,fun W' hI=>?_⟩) (fun HC6=>?_)
 ·exact .inl (by go_simp)
 refine wpAnyR_takeL (i:=6) (kw:=8) (v:=.pointer (some ⟨w3.heap.size,2,none⟩)) (fun _=>bl_refl _) (fun p q=>bl_trans p q) rfl rfl (by kernel_rfl) (by kernel_rfl) (by kernel_rfl) (by kernel_rfl) (fun _ _ _ h=>h) HC6 (Or.inl ⟨by kernel_rfl,fun W' hI=>?_⟩) (fun HC7=>?_)
 ·exact .inl (by go_simp)
 refine wpAnyR_takeL (i:=7) (kw:=7) (v:=.int .i64 x2) (fun _=>bl_refl _) (fun p q=>bl_trans p q) rfl rfl (by kernel_rfl) (by kernel_rfl) (by kernel_rfl) (by kernel_rfl) (fun _ _ _ h=>h) HC7 (Or.inl ⟨by kernel_rfl,fun W' hI=>?_⟩) (fun HC8=>?_)
 ·have hv:=(G3NX.out).below hI
  obtain ⟨z2,_⟩:=hv.cell 2 _ rfl
  exact .inl (by go_simp)
 refine wpAnyR_takeL (i:=8) (kw:=11) (v:=.pointer (some ⟨w1.heap.size,1,none⟩)) (fun _=>bl_refl _) (fun p q=>bl_trans p q) rfl rfl (by kernel_rfl) (by kernel_rfl) (by kernel_rfl) (by kernel_rfl) (fun _ _ _ h=>h) HC8 (Or.inl ⟨by kernel_rfl,fun W' hI=>?_⟩) (fun HC9=>?_)
 ·exact .inl (by go_simp)
 refine wpAnyR_takeL (i:=9) (kw:=10) (v:=.slice (some ⟨b2',o2',none⟩) b.bt.length M.c2) (fun _=>bl_refl _) (fun p q=>bl_trans p q) rfl rfl (by kernel_rfl) (by kernel_rfl) (by kernel_rfl) (by kernel_rfl) (fun _ _ _ h=>h) HC9 (Or.inl ⟨by kernel_rfl,fun W' hI=>?_⟩) (fun HC10=>?_)
 ·have hv:=(GN.out).below hI
  obtain ⟨z1,_⟩:=hv.cell 1 _ rfl
  exact .inl (by go_simp)
 refine wpAnyR_takeL (i:=10) (kw:=11) (v:=.pointer (some ⟨w1.heap.size,5,none⟩)) (fun _=>bl_refl _) (fun p q=>bl_trans p q) rfl rfl (by kernel_rfl) (by kernel_rfl) (by kernel_rfl) (by kernel_rfl) (fun _ _ _ h=>h) HC10 (Or.inl ⟨by kernel_rfl,fun W' hI=>?_⟩) (fun HC11=>?_)
 ·exact .inl (by go_simp)
 refine wpAnyR_takeL (i:=11) (kw:=10) (v:=.int .i64 i) (fun _=>bl_refl _) (fun p q=>bl_trans p q) rfl rfl (by kernel_rfl) (by kernel_rfl) (by kernel_rfl) (by kernel_rfl) (fun _ _ _ h=>h) HC11 (Or.inl ⟨by kernel_rfl,fun W' hI=>?_⟩) (fun HC12=>?_)
 ·have hv:=(GN.out).below hI
  obtain ⟨z5,_⟩:=hv.cell 5 _ rfl
  exact .inl (by go_simp)
 refine wpAnyR_takeL (i:=12) (kw:=9) (v:=.pointer (some ⟨b2',o2' + i,none⟩)) (fun _=>bl_refl _) (fun p q=>bl_trans p q) rfl rfl (by kernel_rfl) (by kernel_rfl) (by kernel_rfl) (by kernel_rfl) (fun _ _ _ h=>h) HC12 (Or.inl ⟨by kernel_rfl,fun W' hI=>?_⟩) (fun HC13=>?_)
 ·exact .inl (by go_simp)
 refine wpAnyR_takeL (i:=13) (kw:=8) (v:=.int .i64 y) (fun _=>bl_refl _) (fun p q=>bl_trans p q) rfl rfl (by kernel_rfl) (by kernel_rfl) (by kernel_rfl) (by kernel_rfl) (fun _ _ _ h=>h) HC13 (Or.inl ⟨by kernel_rfl,fun W' hI=>?_⟩) (fun HC14=>?_)
 ·have hx:=HQ3.out W' hI
  exact .inl (by go_simp)
 refine wpAnyR_takeL (i:=14) (kw:=9) (v:=.pointer (some ⟨w3.heap.size,1,none⟩)) (fun _=>bl_refl _) (fun p q=>bl_trans p q) rfl rfl (by kernel_rfl) (by kernel_rfl) (by kernel_rfl) (by kernel_rfl) (fun _ _ _ h=>h) HC14 (Or.inl ⟨by kernel_rfl,fun W' hI=>?_⟩) (fun HC15=>?_)
 ·exact .inl (by go_simp)
 refine wpAnyR_takeL (i:=15) (kw:=8) (v:=.int .i64 x1) (fun _=>bl_refl _) (fun p q=>bl_trans p q) rfl rfl (by kernel_rfl) (by kernel_rfl) (by kernel_rfl) (by kernel_rfl) (fun _ _ _ h=>h) HC15 (Or.inl ⟨by kernel_rfl,fun W' hI=>?_⟩) (fun HC16=>?_)
 ·have hv:=(G3NX.out).below hI
  obtain ⟨z1,_⟩:=hv.cell 1 _ rfl
  exact .inl (by go_simp)
 refine wpAnyR_takeL (i:=16) (kw:=7) (v:=.int .i64 (y + x1)) (fun _=>bl_refl _) (fun p q=>bl_trans p q) rfl rfl (by kernel_rfl) (by kernel_rfl) (by kernel_rfl) (by kernel_rfl) (fun _ _ _ h=>h) HC16 (Or.inl ⟨by kernel_rfl,fun W' hI=>?_⟩) (fun HC17=>?_)
 ·exact .inl (by go_simp;first | done | exact IntWalk.i64_in _ (by omega))
 refine wpAnyR_takeL (i:=17) (kw:=6) (v:=.bool true) (fun _=>bl_refl _) (fun p q=>bl_trans p q) rfl rfl (by kernel_rfl) (by kernel_rfl) (by kernel_rfl) (by kernel_rfl) (fun _ _ _ h=>h) HC17 (Or.inl ⟨by kernel_rfl,fun W' hI=>?_⟩) (fun HC18=>?_)
 ·exact .inl (by go_simp)
 refine wpAnyR_takeL (i:=18) (kw:=5) (v:=.bool true) (fun _=>bl_refl _) (fun p q=>bl_trans p q) rfl rfl (by kernel_rfl) (by kernel_rfl) (by kernel_rfl) (by kernel_rfl) (fun _ _ _ h=>h) HC18 (Or.inl ⟨by kernel_rfl,fun W' hI=>?_⟩) (fun HC19=>?_)
 ·exact .inl (by go_simp)
 refine wpAnyR_takeL (i:=19) (kw:=4) (v:=.bool true) (fun _=>bl_refl _) (fun p q=>bl_trans p q) rfl rfl (by kernel_rfl) (by kernel_rfl) (by kernel_rfl) (by kernel_rfl) (fun _ _ _ h=>h) HC19 (Or.inl ⟨by kernel_rfl,fun W' hI=>?_⟩) (fun HC20=>?_)
 ·exact .inl (by go_simp)
 refine wpAnyR_takeL (i:=20) (kw:=5) (v:=.agg #[.slice M.a1 b.st.length M.c1,.slice (some ⟨b2',o2',none⟩) b.bt.length M.c2,.slice M.a3 b.pd.length M.c3,.slice M.a4 b.fo.length M.c4,.slice M.a5 b.ac.length M.c5,.int .i64 i,.int .i64 b.un,.int .i64 b.ra,.int .i64 b.li]) (fun _=>bl_refl _) (fun p q=>bl_trans p q) rfl rfl (by kernel_rfl) (by kernel_rfl) (by kernel_rfl) (by kernel_rfl) (fun _ _ _ h=>h) HC20 (Or.inl ⟨by kernel_rfl,fun W' hI=>?_⟩) (fun HC21=>?_)
 ·have hv:=(GN.out).below hI
  obtain ⟨z0,_⟩:=hv.cell 0 _ rfl
  obtain ⟨z1,_⟩:=hv.cell 1 _ rfl
  obtain ⟨z2,_⟩:=hv.cell 2 _ rfl
  obtain ⟨z3,_⟩:=hv.cell 3 _ rfl
  obtain ⟨z4,_⟩:=hv.cell 4 _ rfl
  obtain ⟨z5,_⟩:=hv.cell 5 _ rfl
  obtain ⟨z6,_⟩:=hv.cell 6 _ rfl
  obtain ⟨z7,_⟩:=hv.cell 7 _ rfl
  obtain ⟨z8,_⟩:=hv.cell 8 _ rfl
  exact .inl (by go_simp)
 refine wpAnyR_takeL (i:=21) (kw:=7) (v:=.pointer (some ⟨w3.heap.size,2,none⟩)) (fun _=>bl_refl _) (fun p q=>bl_trans p q) rfl rfl (by kernel_rfl) (by kernel_rfl) (by kernel_rfl) (by kernel_rfl) (fun _ _ _ h=>h) HC21 (Or.inl ⟨by kernel_rfl,fun W' hI=>?_⟩) (fun HC22=>?_)
 ·exact .inl (by go_simp)
 refine wpAnyR_takeL (i:=22) (kw:=6) (v:=.int .i64 x2) (fun _=>bl_refl _) (fun p q=>bl_trans p q) rfl rfl (by kernel_rfl) (by kernel_rfl) (by kernel_rfl) (by kernel_rfl) (fun _ _ _ h=>h) HC22 (Or.inl ⟨by kernel_rfl,fun W' hI=>?_⟩) (fun HC23=>?_)
 ·have hv:=(G3NX.out).below hI
  obtain ⟨z2,_⟩:=hv.cell 2 _ rfl
  exact .inl (by go_simp)
 refine wpAnyR_takeL (i:=23) (kw:=5) (v:=.agg #[.int .i64 3,.int .i64 x2]) (fun _=>bl_refl _) (fun p q=>bl_trans p q) rfl rfl (by kernel_rfl) (by kernel_rfl) (by kernel_rfl) (by kernel_rfl) (fun _ _ _ h=>h) HC23 (Or.inl ⟨by kernel_rfl,fun W' hI=>?_⟩) (fun HC24=>?_)
 ·exact .inl (by go_simp)
 refine wpAnyR_takeL (i:=24) (kw:=4) (v:=.bool true) (fun _=>bl_refl _) (fun p q=>bl_trans p q) rfl rfl (by kernel_rfl) (by kernel_rfl) (by kernel_rfl) (by kernel_rfl) (fun _ _ _ h=>h) HC24 (Or.inl ⟨by kernel_rfl,fun W' hI=>?_⟩) (fun HC25=>?_)
 ·exact .inr ⟨19,#[.agg #[.slice M.a1 b.st.length M.c1,.slice (some ⟨b2',o2',none⟩) b.bt.length M.c2,.slice M.a3 b.pd.length M.c3,.slice M.a4 b.fo.length M.c4,.slice M.a5 b.ac.length M.c5,.int .i64 i,.int .i64 b.un,.int .i64 b.ra,.int .i64 b.li],.agg #[.int .i64 3,.int .i64 x2]],by go_simp,(by have q:=KL1.out W' (G3R1.out.below hI);rw [E2.out,HT.out] at q;exact q)⟩
 refine wpAnyR_takeL (i:=25) (kw:=3) (v:=.bool true) (fun _=>bl_refl _) (fun p q=>bl_trans p q) rfl rfl (by kernel_rfl) (by kernel_rfl) (by kernel_rfl) (by kernel_rfl) (fun _ _ _ h=>h) HC25 (Or.inl ⟨by kernel_rfl,fun W' hI=>?_⟩) (fun HC26=>?_)
 ·exact .inl (by go_simp)
 refine wpAnyR_takeL (i:=26) (kw:=2) (v:=.bool true) (fun _=>bl_refl _) (fun p q=>bl_trans p q) rfl rfl (by kernel_rfl) (by kernel_rfl) (by kernel_rfl) (by kernel_rfl) (fun _ _ _ h=>h) HC26 (Or.inl ⟨by kernel_rfl,fun W' hI=>?_⟩) (fun HC27=>?_)
 ·exact .inl (by go_simp)
 refine wpAnyR_takeL (i:=27) (kw:=3) (v:=.agg #[.slice M.a1 b.st.length M.c1,.slice (some ⟨b2',o2',none⟩) b.bt.length M.c2,.slice M.a3 b.pd.length M.c3,.slice M.a4 b.fo.length M.c4,.slice M.a5 b.ac.length M.c5,.int .i64 i,.int .i64 b.un,.int .i64 b.ra,.int .i64 b.li]) (fun _=>bl_refl _) (fun p q=>bl_trans p q) rfl rfl (by kernel_rfl) (by kernel_rfl) (by kernel_rfl) (by kernel_rfl) (fun _ _ _ h=>h) HC27 (Or.inl ⟨by kernel_rfl,fun W' hI=>?_⟩) (fun HC28=>?_)
 ·have hv:=(GN.out).below hI
  obtain ⟨z0,_⟩:=hv.cell 0 _ rfl
  obtain ⟨z1,_⟩:=hv.cell 1 _ rfl
  obtain ⟨z2,_⟩:=hv.cell 2 _ rfl
  obtain ⟨z3,_⟩:=hv.cell 3 _ rfl
  obtain ⟨z4,_⟩:=hv.cell 4 _ rfl
  obtain ⟨z5,_⟩:=hv.cell 5 _ rfl
  obtain ⟨z6,_⟩:=hv.cell 6 _ rfl
  obtain ⟨z7,_⟩:=hv.cell 7 _ rfl
  obtain ⟨z8,_⟩:=hv.cell 8 _ rfl
  exact .inl (by go_simp)
 refine wpAnyR_takeL (i:=28) (kw:=5) (v:=.pointer (some ⟨w3.heap.size,3,none⟩)) (fun _=>bl_refl _) (fun p q=>bl_trans p q) rfl rfl (by kernel_rfl) (by kernel_rfl) (by kernel_rfl) (by kernel_rfl) (fun _ _ _ h=>h) HC28 (Or.inl ⟨by kernel_rfl,fun W' hI=>?_⟩) (fun HC29=>?_)
 ·exact .inl (by go_simp)
 refine wpAnyR_takeL (i:=29) (kw:=4) (v:=.int .i64 x3) (fun _=>bl_refl _) (fun p q=>bl_trans p q) rfl rfl (by kernel_rfl) (by kernel_rfl) (by kernel_rfl) (by kernel_rfl) (fun _ _ _ h=>h) HC29 (Or.inl ⟨by kernel_rfl,fun W' hI=>?_⟩) (fun HC30=>?_)
 ·have hv:=(G3NX.out).below hI
  obtain ⟨z3,_⟩:=hv.cell 3 _ rfl
  exact .inl (by go_simp)
 refine wpAnyR_takeL (i:=30) (kw:=3) (v:=.agg #[.int .i64 3,.int .i64 x3]) (fun _=>bl_refl _) (fun p q=>bl_trans p q) rfl rfl (by kernel_rfl) (by kernel_rfl) (by kernel_rfl) (by kernel_rfl) (fun _ _ _ h=>h) HC30 (Or.inl ⟨by kernel_rfl,fun W' hI=>?_⟩) (fun HC31=>?_)
 ·exact .inl (by go_simp)
 refine wpAnyR_takeL (i:=31) (kw:=2) (v:=.bool true) (fun _=>bl_refl _) (fun p q=>bl_trans p q) rfl rfl (by kernel_rfl) (by kernel_rfl) (by kernel_rfl) (by kernel_rfl) (fun _ _ _ h=>h) HC31 (Or.inl ⟨by kernel_rfl,fun W' hI=>?_⟩) (fun HC32=>?_)
 ·exact .inr ⟨19,#[.agg #[.slice M.a1 b.st.length M.c1,.slice (some ⟨b2',o2',none⟩) b.bt.length M.c2,.slice M.a3 b.pd.length M.c3,.slice M.a4 b.fo.length M.c4,.slice M.a5 b.ac.length M.c5,.int .i64 i,.int .i64 b.un,.int .i64 b.ra,.int .i64 b.li],.agg #[.int .i64 3,.int .i64 x3]],by go_simp,(by have q:=KL2.out W' (G3R1.out.below hI);rw [E2.out,HT.out] at q;exact q)⟩
 refine wpAnyR_takeL (i:=32) (kw:=1) (v:=.bool true) (fun _=>bl_refl _) (fun p q=>bl_trans p q) rfl rfl (by kernel_rfl) (by kernel_rfl) (by kernel_rfl) (by kernel_rfl) (fun _ _ _ h=>h) HC32 (Or.inl ⟨by kernel_rfl,fun W' hI=>?_⟩) (fun HC33=>?_)
 ·exact .inl (by go_simp)
 refine wpAnyR_lastL (by kernel_rfl) (by kernel_rfl) rfl (by kernel_rfl) (fun wR hrR=>⟨bl_drewT hrR,?_⟩)
 intro K hK
 have BR:=Lib.hid (bl_drewT hrR)
 clear hrR
 have BF:=Lib.hid (bl_trans BL3.out BR.out)
 go_simp
 refine hK _ _ ?_
 clear hK K
 go_wp2_with fail
 exact bodyPost_ret (v:=.bool true) (by simp [results,Try.results3,go_sem]) rfl ⟨rfl,BF.out⟩
set_option maxRecDepth 100000 in
set_option maxHeartbeats 400000 in
theorem walkChoices_big (a : Option Addr) (L c : Nat) (w : World) (hm : L ≤ maxLen) (h : 4096 < L) :
  Calls Try.prog 3 #[.slice a L c] w (Fresh (.bool true) w):=by
 unfold maxLen at hm
 go_enter Try.func3,Try.ntmps3
 go_wp2_with (go_at_call 11;refine (big_yes _ _ _ _ h (by omega)).mono ?_;rintro e w0 ⟨rfl,rfl⟩)
 go_ret
 exact ⟨rfl,bl_refl _⟩
theorem walkChoices (a : Option Addr) (L c : Nat) (zs : Nat → Int) (w : World) (hm : L ≤ maxLen) (hc : CodeIn w a L zs) :
  Calls Try.prog 3 #[.slice a L c] w (Fresh (.bool true) w):=by
 by_cases h : L ≤ 4096
 ·exact walkChoices_in a L c zs w h hc
 ·exact walkChoices_big a L c w hm (by omega)

set_option maxRecDepth 100000 in
theorem fnChoices_lifted (os : Go.Os) (started : os.Started) (H : Type) (enc : TypeId × Value → H) :
  ReturnsInHanded {} Try.checked os 3 .any (Rows.fnChoicesSpec.pre6 enc Try.prog Try.f3 Rows.fnChoicesRow.domain false) (Rows.fnChoicesSpec.post enc Try.prog Try.f3 false true false false):=by
 refine law_lifted started (by kernel_rfl) Try.func3 (by kernel_rfl) rfl (fun ds h=>?_) ?_
  (ChangeSpec.witness6 (enc:=enc) (C:=Try.checked) false ⟨#[],#[.slice none 0 0],[]⟩ 8 (by kernel_rfl) (by kernel_rfl) (by kernel_rfl) (by kernel_rfl)) ?_
 ·match ds,h with
  | [d0],_=>rfl
 ·rw [Try.params3]
  intro t ht
  obtain rfl : t = 22:=by simpa using ht
  exact ⟨by kernel_rfl,of_decide_eq_true (by kernel_rfl)⟩
 ·intro W base args ds ps hval hA
  rw [Try.params3] at hA hval
  obtain ⟨v0,d0,rfl,rfl,h0⟩:=trodAll_one hA
  obtain ⟨A0,L0,c0,zs0,rfl,m0,r0⟩:=open_code (hval 0 22 v0 rfl rfl) h0
  exact walkChoices A0 L0 c0 zs0 W m0 r0

/-- Every open round has the choice to fold and one of the choices to check and to call,and raises are at least calls,for every code. -/
theorem fnChoices_holds : Rows.FnChoicesSaid :=
 OpenClaim.holds_of_wide 3 Try.f3 rfl rfl rfl rfl rfl rfl rfl ⟨rfl,rfl,rfl,rfl,rfl⟩ rfl rfl rfl rfl rfl (by kernel_rfl) Try.func3 (by kernel_rfl)
  (of_decide_eq_true (by kernel_rfl)) (by unfold Func.isWrapper;first | (rw [if_pos (by decide +kernel)];kernel_rfl) | (rw [if_neg (by decide +kernel)];exact ⟨rfl,rfl⟩))
  (fun os started H enc _=>fnChoices_lifted os started H enc)
end Go.Proofs.Ytnllndcajdofjaa
