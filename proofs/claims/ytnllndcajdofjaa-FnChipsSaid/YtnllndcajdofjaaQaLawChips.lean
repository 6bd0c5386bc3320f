/-
 The law FnChips: the chips of a round are the pot and the stacks, and somebody has not folded, for every code.
 No condition.
-/
import Derived.Test.YtnllndcajdofjaaQaDrawBG
import Derived.Test.YtnllndcajdofjaaQaBetFG
import Derived.Test.YtnllndcajdofjaaQaSpecBetF
import Derived.Test.YtnllndcajdofjaaQaBetStr
import Derived.BigQuiet
import Derived.Lib.SmallJoins
namespace Go.Proofs.Ytnllndcajdofjaa
open Go.ChangeShapes Go.WideShapes Go.ChangeAt Go.RowKit Go.Joins
set_option linter.unusedVariables false

/-- What the law asks of a round; of one that is not valid nothing. -/
theorem chips_facts (b : Bt) : (okC b = 1 ∧ okB b = false) ∨ (okC b = 0 ∧ okB b = true ∧ allIR b = potIR b + sumT b.st b.st.length ∧ 0 < (liveR b).length ∧ inC b.st ∧ 0 ≤ potIR b ∧ 0 ≤ sumT b.st b.st.length ∧ potIR b + sumT b.st b.st.length ≤ 600000):=by
 rcases hv : okB b with _ | _
 ·exact .inl ⟨by unfold okC;rw [hv];rfl,rfl⟩
 ·have k:=ok_of hv
  have e1 : allIR b = allI b:=by unfold allIR;rw [hv];rfl
  have e2 : potIR b = potI b:=by unfold potIR;rw [hv];rfl
  have e3 : liveR b = liveL b b.st.length:=by unfold liveR;rw [hv];rfl
  have q1:=(sumT_bdC b.bt k.s2 b.bt.length (Nat.le_refl _)).1
  have q2:=(sumT_bdC b.pd k.s3 b.pd.length (Nat.le_refl _)).1
  have q3:=(sumT_bdC b.st k.s1 b.st.length (Nat.le_refl _)).1
  have hs:=k.sum
  rw [e1,e2,e3]
  obtain ⟨i,hi,hf⟩:=k.live
  have hp:=live_pos b i hf b.st.length hi
  unfold allI at hs
  refine .inr ⟨by unfold okC;rw [hv];rfl,rfl,by unfold allI;omega,by omega,k.s1,by unfold potI;omega,q3,by omega⟩
set_option maxRecDepth 100000 in
set_option maxHeartbeats 4000000 in
theorem walkChips_in (a : Option Addr) (L c : Nat) (zs : Nat → Int) (w : World) (hL : L ≤ 4096) (hc : CodeIn w a L zs) :
  Calls Try.prog 5 #[.slice a L c] w (Fresh (.bool true) w):=by
 have HC:=Lib.hid hc
 clear hc
 go_enter Try.func5,Try.ntmps5
 go_wp2_with (go_at_call 11;refine (big_no _ _ _ _ hL).mono ?_;rintro e wz ⟨rfl,rfl⟩)
 go_wp2_with (go_at_call 27;refine (drawChipsIn_any _ _ _ _ _ hL HC.out).mono ?_;rintro e w1 ⟨M,b,rfl,hl,hg,hr,hb⟩;have X1:=Lib.hid hb;have B1:=Lib.hid (bl_trans (bl_refl w) hb);have R1:=Lib.hid hr;have LN:=Lib.hid hl;clear hr hl hg;have NT:=Lib.hid (blk_new w1 27 [.slice M.a1 b.st.length M.c1,.slice M.a2 b.bt.length M.c2,.slice M.a3 b.pd.length M.c3,.slice M.a4 b.fo.length M.c4,.slice M.a5 b.ac.length M.c5,.int .i64 b.tu,.int .i64 b.un,.int .i64 b.ra,.int .i64 b.li]);have B2:=Lib.hid (bl_trans B1.out (bl_alloc (bl_refl w1) (.cells ([.slice M.a1 b.st.length M.c1,.slice M.a2 b.bt.length M.c2,.slice M.a3 b.pd.length M.c3,.slice M.a4 b.fo.length M.c4,.slice M.a5 b.ac.length M.c5,.int .i64 b.tu,.int .i64 b.un,.int .i64 b.ra,.int .i64 b.li] : List Value).toArray 27))))
 have ln2:=LN.out.n2
 have ln6:=LN.out.n6
 have lm2:=LN.out.m2
 have lm3:=LN.out.m3
 have lm4:=LN.out.m4
 have lm5:=LN.out.m5
 have HF:=Lib.hid (chips_facts b)
 have hll:=liveR_len b
 have KA:=Lib.hid (fun (W : World) (h : Rd5 W M b)=>implChipsIn_any M b W h)
 have KB:=Lib.hid (fun (W : World) (h : Rd5 W M b)=>specChipsIn_any M b W h LN.out.sz)
 have KC:=Lib.hid (fun (W : World) (h : Rd5 W M b)=>implPotIn_any M b W h)
 have KD:=Lib.hid (fun (W : World) (h : Rd5 W M b)=>specPotIn_any M b W h LN.out.sz)
 have KE:=Lib.hid (fun (W : World) (h : Rd5 W M b)=>implLiveSeats_any M b W h)
 have KF:=Lib.hid (fun (W : World) (h : Rd5 W M b)=>specLiveSeats_any M b W h LN.out.sz)
 have KG:=Lib.hid (fun (W : World) (h : Rd5 W M b)=>implIsBetting_any M b W h)
 generalize okC b = kc at *
 generalize okB b = kb at *
 generalize allIR b = al at *
 generalize potIR b = pt at *
 generalize liveR b = ll at *
 unfold bV pairV at *
 obtain ⟨q1,-⟩:=(NT.out).cell 0 _ rfl
 obtain ⟨q2,-⟩:=(NT.out).cell 1 _ rfl
 obtain ⟨q3,-⟩:=(NT.out).cell 2 _ rfl
 obtain ⟨q4,-⟩:=(NT.out).cell 3 _ rfl
 obtain ⟨q5,-⟩:=(NT.out).cell 4 _ rfl
 obtain ⟨q6,-⟩:=(NT.out).cell 5 _ rfl
 obtain ⟨q7,-⟩:=(NT.out).cell 6 _ rfl
 obtain ⟨q8,-⟩:=(NT.out).cell 7 _ rfl
 obtain ⟨q9,-⟩:=(NT.out).cell 8 _ rfl
 go_wp2_with (go_at_call 25;refine (KA.out _ ((R1.out.below (bl_alloc (bl_refl w1) (.cells ([.slice M.a1 b.st.length M.c1,.slice M.a2 b.bt.length M.c2,.slice M.a3 b.pd.length M.c3,.slice M.a4 b.fo.length M.c4,.slice M.a5 b.ac.length M.c5,.int .i64 b.tu,.int .i64 b.un,.int .i64 b.ra,.int .i64 b.li] : List Value).toArray 27))))).mono ?_;rintro e w3 ⟨rfl,hb⟩;have X3:=Lib.hid hb;have B3:=Lib.hid (bl_trans B2.out hb);clear q1 q2 q3 q4 q5 q6 q7 q8 q9;obtain ⟨q10,-⟩:=((NT.out.below X3.out)).cell 0 _ rfl;obtain ⟨q11,-⟩:=((NT.out.below X3.out)).cell 1 _ rfl;obtain ⟨q12,-⟩:=((NT.out.below X3.out)).cell 2 _ rfl;obtain ⟨q13,-⟩:=((NT.out.below X3.out)).cell 3 _ rfl;obtain ⟨q14,-⟩:=((NT.out.below X3.out)).cell 4 _ rfl;obtain ⟨q15,-⟩:=((NT.out.below X3.out)).cell 5 _ rfl;obtain ⟨q16,-⟩:=((NT.out.below X3.out)).cell 6 _ rfl;obtain ⟨q17,-⟩:=((NT.out.below X3.out)).cell 7 _ rfl;obtain ⟨q18,-⟩:=((NT.out.below X3.out)).cell 8 _ rfl)
 go_wp2_with (go_at_call 28;refine (KB.out _ (((R1.out.below (bl_alloc (bl_refl w1) (.cells ([.slice M.a1 b.st.length M.c1,.slice M.a2 b.bt.length M.c2,.slice M.a3 b.pd.length M.c3,.slice M.a4 b.fo.length M.c4,.slice M.a5 b.ac.length M.c5,.int .i64 b.tu,.int .i64 b.un,.int .i64 b.ra,.int .i64 b.li] : List Value).toArray 27))).below X3.out))).mono ?_;rintro e w4 ⟨rfl,hb⟩;have X4:=Lib.hid hb;have B4:=Lib.hid (bl_trans B3.out hb);clear q10 q11 q12 q13 q14 q15 q16 q17 q18;obtain ⟨q19,-⟩:=(((NT.out.below X3.out).below X4.out)).cell 0 _ rfl;obtain ⟨q20,-⟩:=(((NT.out.below X3.out).below X4.out)).cell 1 _ rfl;obtain ⟨q21,-⟩:=(((NT.out.below X3.out).below X4.out)).cell 2 _ rfl;obtain ⟨q22,-⟩:=(((NT.out.below X3.out).below X4.out)).cell 3 _ rfl;obtain ⟨q23,-⟩:=(((NT.out.below X3.out).below X4.out)).cell 4 _ rfl;obtain ⟨q24,-⟩:=(((NT.out.below X3.out).below X4.out)).cell 5 _ rfl;obtain ⟨q25,-⟩:=(((NT.out.below X3.out).below X4.out)).cell 6 _ rfl;obtain ⟨q26,-⟩:=(((NT.out.below X3.out).below X4.out)).cell 7 _ rfl;obtain ⟨q27,-⟩:=(((NT.out.below X3.out).below X4.out)).cell 8 _ rfl)
 go_wp2_with (go_at_call 26;refine (KC.out _ ((((R1.out.below (bl_alloc (bl_refl w1) (.cells ([.slice M.a1 b.st.length M.c1,.slice M.a2 b.bt.length M.c2,.slice M.a3 b.pd.length M.c3,.slice M.a4 b.fo.length M.c4,.slice M.a5 b.ac.length M.c5,.int .i64 b.tu,.int .i64 b.un,.int .i64 b.ra,.int .i64 b.li] : List Value).toArray 27))).below X3.out).below X4.out))).mono ?_;rintro e w5 ⟨rfl,hb⟩;have X5:=Lib.hid hb;have B5:=Lib.hid (bl_trans B4.out hb);clear q19 q20 q21 q22 q23 q24 q25 q26 q27;obtain ⟨q28,-⟩:=((((NT.out.below X3.out).below X4.out).below X5.out)).cell 0 _ rfl;obtain ⟨q29,-⟩:=((((NT.out.below X3.out).below X4.out).below X5.out)).cell 1 _ rfl;obtain ⟨q30,-⟩:=((((NT.out.below X3.out).below X4.out).below X5.out)).cell 2 _ rfl;obtain ⟨q31,-⟩:=((((NT.out.below X3.out).below X4.out).below X5.out)).cell 3 _ rfl;obtain ⟨q32,-⟩:=((((NT.out.below X3.out).below X4.out).below X5.out)).cell 4 _ rfl;obtain ⟨q33,-⟩:=((((NT.out.below X3.out).below X4.out).below X5.out)).cell 5 _ rfl;obtain ⟨q34,-⟩:=((((NT.out.below X3.out).below X4.out).below X5.out)).cell 6 _ rfl;obtain ⟨q35,-⟩:=((((NT.out.below X3.out).below X4.out).below X5.out)).cell 7 _ rfl;obtain ⟨q36,-⟩:=((((NT.out.below X3.out).below X4.out).below X5.out)).cell 8 _ rfl)
 go_wp2_with (go_at_call 29;refine (KD.out _ (((((R1.out.below (bl_alloc (bl_refl w1) (.cells ([.slice M.a1 b.st.length M.c1,.slice M.a2 b.bt.length M.c2,.slice M.a3 b.pd.length M.c3,.slice M.a4 b.fo.length M.c4,.slice M.a5 b.ac.length M.c5,.int .i64 b.tu,.int .i64 b.un,.int .i64 b.ra,.int .i64 b.li] : List Value).toArray 27))).below X3.out).below X4.out).below X5.out))).mono ?_;rintro e w6 ⟨rfl,hb⟩;have X6:=Lib.hid hb;have B6:=Lib.hid (bl_trans B5.out hb);clear q28 q29 q30 q31 q32 q33 q34 q35 q36;obtain ⟨q37,-⟩:=(((((NT.out.below X3.out).below X4.out).below X5.out).below X6.out)).cell 0 _ rfl;obtain ⟨q38,-⟩:=(((((NT.out.below X3.out).below X4.out).below X5.out).below X6.out)).cell 1 _ rfl;obtain ⟨q39,-⟩:=(((((NT.out.below X3.out).below X4.out).below X5.out).below X6.out)).cell 2 _ rfl;obtain ⟨q40,-⟩:=(((((NT.out.below X3.out).below X4.out).below X5.out).below X6.out)).cell 3 _ rfl;obtain ⟨q41,-⟩:=(((((NT.out.below X3.out).below X4.out).below X5.out).below X6.out)).cell 4 _ rfl;obtain ⟨q42,-⟩:=(((((NT.out.below X3.out).below X4.out).below X5.out).below X6.out)).cell 5 _ rfl;obtain ⟨q43,-⟩:=(((((NT.out.below X3.out).below X4.out).below X5.out).below X6.out)).cell 6 _ rfl;obtain ⟨q44,-⟩:=(((((NT.out.below X3.out).below X4.out).below X5.out).below X6.out)).cell 7 _ rfl;obtain ⟨q45,-⟩:=(((((NT.out.below X3.out).below X4.out).below X5.out).below X6.out)).cell 8 _ rfl)
 go_wp2_with (go_at_call 30;refine (KE.out _ ((((((R1.out.below (bl_alloc (bl_refl w1) (.cells ([.slice M.a1 b.st.length M.c1,.slice M.a2 b.bt.length M.c2,.slice M.a3 b.pd.length M.c3,.slice M.a4 b.fo.length M.c4,.slice M.a5 b.ac.length M.c5,.int .i64 b.tu,.int .i64 b.un,.int .i64 b.ra,.int .i64 b.li] : List Value).toArray 27))).below X3.out).below X4.out).below X5.out).below X6.out))).mono ?_;rintro e w7 ⟨A2,c2,rfl,ho,hb⟩;have X7:=Lib.hid hb;have B7:=Lib.hid (bl_trans B6.out hb);have O2:=Lib.hid ho;clear q37 q38 q39 q40 q41 q42 q43 q44 q45;obtain ⟨q46,-⟩:=((((((NT.out.below X3.out).below X4.out).below X5.out).below X6.out).below X7.out)).cell 0 _ rfl;obtain ⟨q47,-⟩:=((((((NT.out.below X3.out).below X4.out).below X5.out).below X6.out).below X7.out)).cell 1 _ rfl;obtain ⟨q48,-⟩:=((((((NT.out.below X3.out).below X4.out).below X5.out).below X6.out).below X7.out)).cell 2 _ rfl;obtain ⟨q49,-⟩:=((((((NT.out.below X3.out).below X4.out).below X5.out).below X6.out).below X7.out)).cell 3 _ rfl;obtain ⟨q50,-⟩:=((((((NT.out.below X3.out).below X4.out).below X5.out).below X6.out).below X7.out)).cell 4 _ rfl;obtain ⟨q51,-⟩:=((((((NT.out.below X3.out).below X4.out).below X5.out).below X6.out).below X7.out)).cell 5 _ rfl;obtain ⟨q52,-⟩:=((((((NT.out.below X3.out).below X4.out).below X5.out).below X6.out).below X7.out)).cell 6 _ rfl;obtain ⟨q53,-⟩:=((((((NT.out.below X3.out).below X4.out).below X5.out).below X6.out).below X7.out)).cell 7 _ rfl;obtain ⟨q54,-⟩:=((((((NT.out.below X3.out).below X4.out).below X5.out).below X6.out).below X7.out)).cell 8 _ rfl)
 have u1 : (kc != kc) = false:=by simp
 have u2 : (al != al) = false:=by simp
 have u3 : (pt != pt) = false:=by simp
 go_wp2_with (go_at_call 31;refine (KF.out _ (((((((R1.out.below (bl_alloc (bl_refl w1) (.cells ([.slice M.a1 b.st.length M.c1,.slice M.a2 b.bt.length M.c2,.slice M.a3 b.pd.length M.c3,.slice M.a4 b.fo.length M.c4,.slice M.a5 b.ac.length M.c5,.int .i64 b.tu,.int .i64 b.un,.int .i64 b.ra,.int .i64 b.li] : List Value).toArray 27))).below X3.out).below X4.out).below X5.out).below X6.out).below X7.out))).mono ?_;rintro e w8 ⟨A3,c3,rfl,ho,hb⟩;have X8:=Lib.hid hb;have B8:=Lib.hid (bl_trans B7.out hb);have O3:=Lib.hid ho;clear q46 q47 q48 q49 q50 q51 q52 q53 q54;obtain ⟨q55,-⟩:=(((((((NT.out.below X3.out).below X4.out).below X5.out).below X6.out).below X7.out).below X8.out)).cell 0 _ rfl;obtain ⟨q56,-⟩:=(((((((NT.out.below X3.out).below X4.out).below X5.out).below X6.out).below X7.out).below X8.out)).cell 1 _ rfl;obtain ⟨q57,-⟩:=(((((((NT.out.below X3.out).below X4.out).below X5.out).below X6.out).below X7.out).below X8.out)).cell 2 _ rfl;obtain ⟨q58,-⟩:=(((((((NT.out.below X3.out).below X4.out).below X5.out).below X6.out).below X7.out).below X8.out)).cell 3 _ rfl;obtain ⟨q59,-⟩:=(((((((NT.out.below X3.out).below X4.out).below X5.out).below X6.out).below X7.out).below X8.out)).cell 4 _ rfl;obtain ⟨q60,-⟩:=(((((((NT.out.below X3.out).below X4.out).below X5.out).below X6.out).below X7.out).below X8.out)).cell 5 _ rfl;obtain ⟨q61,-⟩:=(((((((NT.out.below X3.out).below X4.out).below X5.out).below X6.out).below X7.out).below X8.out)).cell 6 _ rfl;obtain ⟨q62,-⟩:=(((((((NT.out.below X3.out).below X4.out).below X5.out).below X6.out).below X7.out).below X8.out)).cell 7 _ rfl;obtain ⟨q63,-⟩:=(((((((NT.out.below X3.out).below X4.out).below X5.out).below X6.out).below X7.out).below X8.out)).cell 8 _ rfl)
 have hn8 : ll.length ≤ 4000000:=by omega
 have kl8:=Lib.hid (likeInts_same _ _ c2 c3 ll _ (O2.out.below X8.out).rd O3.out.rd hn8)
 rcases HF.out with ⟨rfl,rfl⟩ | ⟨rfl,rfl,f1,f2,f3,f4,f4b,f5⟩
 ·go_wp2_with (go_at_call 32;refine (kl8.out).mono ?_;rintro e w9 ⟨rfl,hb⟩;have X9:=Lib.hid hb;have B9:=Lib.hid (bl_trans B8.out hb);clear kl8 hn8;clear q55 q56 q57 q58 q59 q60 q61 q62 q63;obtain ⟨q64,-⟩:=((((((((NT.out.below X3.out).below X4.out).below X5.out).below X6.out).below X7.out).below X8.out).below X9.out)).cell 0 _ rfl;obtain ⟨q65,-⟩:=((((((((NT.out.below X3.out).below X4.out).below X5.out).below X6.out).below X7.out).below X8.out).below X9.out)).cell 1 _ rfl;obtain ⟨q66,-⟩:=((((((((NT.out.below X3.out).below X4.out).below X5.out).below X6.out).below X7.out).below X8.out).below X9.out)).cell 2 _ rfl;obtain ⟨q67,-⟩:=((((((((NT.out.below X3.out).below X4.out).below X5.out).below X6.out).below X7.out).below X8.out).below X9.out)).cell 3 _ rfl;obtain ⟨q68,-⟩:=((((((((NT.out.below X3.out).below X4.out).below X5.out).below X6.out).below X7.out).below X8.out).below X9.out)).cell 4 _ rfl;obtain ⟨q69,-⟩:=((((((((NT.out.below X3.out).below X4.out).below X5.out).below X6.out).below X7.out).below X8.out).below X9.out)).cell 5 _ rfl;obtain ⟨q70,-⟩:=((((((((NT.out.below X3.out).below X4.out).below X5.out).below X6.out).below X7.out).below X8.out).below X9.out)).cell 6 _ rfl;obtain ⟨q71,-⟩:=((((((((NT.out.below X3.out).below X4.out).below X5.out).below X6.out).below X7.out).below X8.out).below X9.out)).cell 7 _ rfl;obtain ⟨q72,-⟩:=((((((((NT.out.below X3.out).below X4.out).below X5.out).below X6.out).below X7.out).below X8.out).below X9.out)).cell 8 _ rfl)
  go_wp2_with (go_at_call 17;refine (KG.out _ (((((((((R1.out.below (bl_alloc (bl_refl w1) (.cells ([.slice M.a1 b.st.length M.c1,.slice M.a2 b.bt.length M.c2,.slice M.a3 b.pd.length M.c3,.slice M.a4 b.fo.length M.c4,.slice M.a5 b.ac.length M.c5,.int .i64 b.tu,.int .i64 b.un,.int .i64 b.ra,.int .i64 b.li] : List Value).toArray 27))).below X3.out).below X4.out).below X5.out).below X6.out).below X7.out).below X8.out).below X9.out))).mono ?_;rintro e w10 ⟨rfl,hb⟩;have X10:=Lib.hid hb;have B10:=Lib.hid (bl_trans B9.out hb);clear q64 q65 q66 q67 q68 q69 q70 q71 q72;obtain ⟨q73,-⟩:=(((((((((NT.out.below X3.out).below X4.out).below X5.out).below X6.out).below X7.out).below X8.out).below X9.out).below X10.out)).cell 0 _ rfl;obtain ⟨q74,-⟩:=(((((((((NT.out.below X3.out).below X4.out).below X5.out).below X6.out).below X7.out).below X8.out).below X9.out).below X10.out)).cell 1 _ rfl;obtain ⟨q75,-⟩:=(((((((((NT.out.below X3.out).below X4.out).below X5.out).below X6.out).below X7.out).below X8.out).below X9.out).below X10.out)).cell 2 _ rfl;obtain ⟨q76,-⟩:=(((((((((NT.out.below X3.out).below X4.out).below X5.out).below X6.out).below X7.out).below X8.out).below X9.out).below X10.out)).cell 3 _ rfl;obtain ⟨q77,-⟩:=(((((((((NT.out.below X3.out).below X4.out).below X5.out).below X6.out).below X7.out).below X8.out).below X9.out).below X10.out)).cell 4 _ rfl;obtain ⟨q78,-⟩:=(((((((((NT.out.below X3.out).below X4.out).below X5.out).below X6.out).below X7.out).below X8.out).below X9.out).below X10.out)).cell 5 _ rfl;obtain ⟨q79,-⟩:=(((((((((NT.out.below X3.out).below X4.out).below X5.out).below X6.out).below X7.out).below X8.out).below X9.out).below X10.out)).cell 6 _ rfl;obtain ⟨q80,-⟩:=(((((((((NT.out.below X3.out).below X4.out).below X5.out).below X6.out).below X7.out).below X8.out).below X9.out).below X10.out)).cell 7 _ rfl;obtain ⟨q81,-⟩:=(((((((((NT.out.below X3.out).below X4.out).below X5.out).below X6.out).below X7.out).below X8.out).below X9.out).below X10.out)).cell 8 _ rfl)
  exact bodyPost_ret (v:=.bool true) (by simp [results,Try.results5,go_sem]) rfl ⟨rfl,B10.out⟩
 ·have F1:=Lib.hid f1
  have F3:=Lib.hid f3
  clear f1 f3
  go_wp2_with (go_at_call 32;refine (kl8.out).mono ?_;rintro e w9 ⟨rfl,hb⟩;have X9:=Lib.hid hb;have B9:=Lib.hid (bl_trans B8.out hb);clear kl8 hn8;clear q55 q56 q57 q58 q59 q60 q61 q62 q63;obtain ⟨q64,-⟩:=((((((((NT.out.below X3.out).below X4.out).below X5.out).below X6.out).below X7.out).below X8.out).below X9.out)).cell 0 _ rfl;obtain ⟨q65,-⟩:=((((((((NT.out.below X3.out).below X4.out).below X5.out).below X6.out).below X7.out).below X8.out).below X9.out)).cell 1 _ rfl;obtain ⟨q66,-⟩:=((((((((NT.out.below X3.out).below X4.out).below X5.out).below X6.out).below X7.out).below X8.out).below X9.out)).cell 2 _ rfl;obtain ⟨q67,-⟩:=((((((((NT.out.below X3.out).below X4.out).below X5.out).below X6.out).below X7.out).below X8.out).below X9.out)).cell 3 _ rfl;obtain ⟨q68,-⟩:=((((((((NT.out.below X3.out).below X4.out).below X5.out).below X6.out).below X7.out).below X8.out).below X9.out)).cell 4 _ rfl;obtain ⟨q69,-⟩:=((((((((NT.out.below X3.out).below X4.out).below X5.out).below X6.out).below X7.out).below X8.out).below X9.out)).cell 5 _ rfl;obtain ⟨q70,-⟩:=((((((((NT.out.below X3.out).below X4.out).below X5.out).below X6.out).below X7.out).below X8.out).below X9.out)).cell 6 _ rfl;obtain ⟨q71,-⟩:=((((((((NT.out.below X3.out).below X4.out).below X5.out).below X6.out).below X7.out).below X8.out).below X9.out)).cell 7 _ rfl;obtain ⟨q72,-⟩:=((((((((NT.out.below X3.out).below X4.out).below X5.out).below X6.out).below X7.out).below X8.out).below X9.out)).cell 8 _ rfl)
  go_wp2_with (go_at_call 17;refine (KG.out _ (((((((((R1.out.below (bl_alloc (bl_refl w1) (.cells ([.slice M.a1 b.st.length M.c1,.slice M.a2 b.bt.length M.c2,.slice M.a3 b.pd.length M.c3,.slice M.a4 b.fo.length M.c4,.slice M.a5 b.ac.length M.c5,.int .i64 b.tu,.int .i64 b.un,.int .i64 b.ra,.int .i64 b.li] : List Value).toArray 27))).below X3.out).below X4.out).below X5.out).below X6.out).below X7.out).below X8.out).below X9.out))).mono ?_;rintro e w10 ⟨rfl,hb⟩;have X10:=Lib.hid hb;have B10:=Lib.hid (bl_trans B9.out hb);clear q64 q65 q66 q67 q68 q69 q70 q71 q72;obtain ⟨q73,-⟩:=(((((((((NT.out.below X3.out).below X4.out).below X5.out).below X6.out).below X7.out).below X8.out).below X9.out).below X10.out)).cell 0 _ rfl;obtain ⟨q74,-⟩:=(((((((((NT.out.below X3.out).below X4.out).below X5.out).below X6.out).below X7.out).below X8.out).below X9.out).below X10.out)).cell 1 _ rfl;obtain ⟨q75,-⟩:=(((((((((NT.out.below X3.out).below X4.out).below X5.out).below X6.out).below X7.out).below X8.out).below X9.out).below X10.out)).cell 2 _ rfl;obtain ⟨q76,-⟩:=(((((((((NT.out.below X3.out).below X4.out).below X5.out).below X6.out).below X7.out).below X8.out).below X9.out).below X10.out)).cell 3 _ rfl;obtain ⟨q77,-⟩:=(((((((((NT.out.below X3.out).below X4.out).below X5.out).below X6.out).below X7.out).below X8.out).below X9.out).below X10.out)).cell 4 _ rfl;obtain ⟨q78,-⟩:=(((((((((NT.out.below X3.out).below X4.out).below X5.out).below X6.out).below X7.out).below X8.out).below X9.out).below X10.out)).cell 5 _ rfl;obtain ⟨q79,-⟩:=(((((((((NT.out.below X3.out).below X4.out).below X5.out).below X6.out).below X7.out).below X8.out).below X9.out).below X10.out)).cell 6 _ rfl;obtain ⟨q80,-⟩:=(((((((((NT.out.below X3.out).below X4.out).below X5.out).below X6.out).below X7.out).below X8.out).below X9.out).below X10.out)).cell 7 _ rfl;obtain ⟨q81,-⟩:=(((((((((NT.out.below X3.out).below X4.out).below X5.out).below X6.out).below X7.out).below X8.out).below X9.out).below X10.out)).cell 8 _ rfl)
  have hsu:=Lib.hid (sum_any M.a1 M.c1 b.st _ ((((((((((R1.out.below (bl_alloc (bl_refl w1) (.cells ([.slice M.a1 b.st.length M.c1,.slice M.a2 b.bt.length M.c2,.slice M.a3 b.pd.length M.c3,.slice M.a4 b.fo.length M.c4,.slice M.a5 b.ac.length M.c5,.int .i64 b.tu,.int .i64 b.un,.int .i64 b.ra,.int .i64 b.li] : List Value).toArray 27))).below X3.out).below X4.out).below X5.out).below X6.out).below X7.out).below X8.out).below X9.out).below X10.out)).r1 (by omega) (fun i hi=>by have:=F3.out i hi;omega))
  rw [sumI_T] at hsu
  generalize sumT b.st b.st.length = su at *
  have hw : IntKind.i64.wrap (pt + su) = pt + su:=IntWalk.i64_in _ (by omega)
  have u4 : (al == pt + su) = true:=by rw [F1.out];simp
  have u5 : decide ((ll.length : Int) > 0) = true:=decide_eq_true (by omega)
  go_wp2_with (go_at_call 33;refine (hsu.out).mono ?_;rintro e wz ⟨rfl,rfl⟩)
  exact bodyPost_ret (v:=.bool true) (by simp [results,Try.results5,go_sem]) rfl ⟨rfl,B10.out⟩
set_option maxRecDepth 100000 in
set_option maxHeartbeats 400000 in
theorem walkChips_big (a : Option Addr) (L c : Nat) (w : World) (hm : L ≤ maxLen) (h : 4096 < L) :
  Calls Try.prog 5 #[.slice a L c] w (Fresh (.bool true) w):=by
 unfold maxLen at hm
 go_enter Try.func5,Try.ntmps5
 go_wp2_with (go_at_call 11;refine (big_yes _ _ _ _ h (by omega)).mono ?_;rintro e w0 ⟨rfl,rfl⟩)
 go_ret
 exact ⟨rfl,bl_refl _⟩
theorem walkChips (a : Option Addr) (L c : Nat) (zs : Nat → Int) (w : World) (hm : L ≤ maxLen) (hc : CodeIn w a L zs) :
  Calls Try.prog 5 #[.slice a L c] w (Fresh (.bool true) w):=by
 by_cases h : L ≤ 4096
 ·exact walkChips_in a L c zs w h hc
 ·exact walkChips_big a L c w hm (by omega)

set_option maxRecDepth 100000 in
theorem fnChips_lifted (os : Go.Os) (started : os.Started) (H : Type) (enc : TypeId × Value → H) :
  ReturnsInHanded {} Try.checked os 5 .any (Rows.fnChipsSpec.pre6 enc Try.prog Try.f5 Rows.fnChipsRow.domain false) (Rows.fnChipsSpec.post enc Try.prog Try.f5 false true false false):=by
 refine law_lifted started (by kernel_rfl) Try.func5 (by kernel_rfl) rfl (fun ds h=>?_) ?_
  (ChangeSpec.witness6 (enc:=enc) (C:=Try.checked) false ⟨#[],#[.slice none 0 0],[]⟩ 8 (by kernel_rfl) (by kernel_rfl) (by kernel_rfl) (by kernel_rfl)) ?_
 ·match ds,h with
  | [d0],_=>rfl
 ·rw [Try.params5]
  intro t ht
  obtain rfl : t = 22:=by simpa using ht
  exact ⟨by kernel_rfl,of_decide_eq_true (by kernel_rfl)⟩
 ·intro W base args ds ps hval hA
  rw [Try.params5] at hA hval
  obtain ⟨v0,d0,rfl,rfl,h0⟩:=trodAll_one hA
  obtain ⟨A0,L0,c0,zs0,rfl,m0,r0⟩:=open_code (hval 0 22 v0 rfl rfl) h0
  exact walkChips A0 L0 c0 zs0 W m0 r0

/-- The chips of a round are the pot and the stacks,and somebody has not folded,for every code. -/
theorem fnChips_holds : Rows.FnChipsSaid :=
 OpenClaim.holds_of_wide 5 Try.f5 rfl rfl rfl rfl rfl rfl rfl ⟨rfl,rfl,rfl,rfl,rfl⟩ rfl rfl rfl rfl rfl (by kernel_rfl) Try.func5 (by kernel_rfl)
  (of_decide_eq_true (by kernel_rfl)) (by unfold Func.isWrapper;first | (rw [if_pos (by decide +kernel)];kernel_rfl) | (rw [if_neg (by decide +kernel)];exact ⟨rfl,rfl⟩))
  (fun os started H enc _=>fnChips_lifted os started H enc)
end Go.Proofs.Ytnllndcajdofjaa
