/-
 The program and the model: actions that are run one after the other.
-/
import Derived.Test.YtnllndcajdofjaaQbBetChkG
import Derived.Test.YtnllndcajdofjaaQbBetClrIG
namespace Go.Proofs.Ytnllndcajdofjaa
open Go.RowKit
set_option linter.unusedVariables false
set_option linter.unusedSimpArgs false

theorem runB_zB {b : Bt} (fl : List Int) (n : Nat) (h : okB b = false ∨ ¬ n ≤ 100) : runB b fl n = zB:=by
 unfold runB
 have hn:¬ (okB b=true ∧ n ≤ 100):=fun q=>by
  rcases h with e | e
  ·rw [e] at q;cases q.1
  ·exact e q.2
 rw [if_neg hn]
 rfl
set_option maxRecDepth 100000 in
set_option maxHeartbeats 4000000 in
theorem implRun_any (L : At5) (b : Bt) (A : Option Addr) (cA : Nat) (fl : List Int) (n : Nat) (w : World) (h : Rd5 w L b) (hA : Rd w A fl) (hl : fl.length = n * 2) (hn0 : n ≤ maxLen) :
  Calls Try.prog 43 #[bV L b,.slice A n cA] w (NewBtNC (runB b fl n) (runN b fl n) (runC b fl n) w):=by
 have KV:=Lib.hid (fun (W : World) (hW : Rd5 W L b)=>implIsBetting_any L b W hW)
 have KCL:=Lib.hid (fun (kk : Sm b) (g : Nat) (W : World) (hW : BtAt W g L b)=>cloneN_any g L b W hW kk)
 have iB : (Try.prog.info? 27).map (·.size) = some 9:=by kernel_rfl
 have iA : (Try.prog.info? 34).map (·.size) = some 2:=by kernel_rfl
 have hmx : Try.prog.follows .mixedOrders = true:=by kernel_rfl
 have b1:=bl_box (w:=w) (L:=L) (b:=b)
 have b2:=bl_alloc (bl_refl (w.alloc (.cells (btL L b).toArray 27))) (.cells ([.slice none 0 0,.slice none 0 0,.slice none 0 0,.slice none 0 0,.slice none 0 0,.int .i64 0,.int .i64 0,.int .i64 0,.int .i64 0] : List Value).toArray 27)
 have BT:=(btAt_new h).below b2
 have n1:=blk_new (w.alloc (.cells (btL L b).toArray 27)) 27 [.slice none 0 0,.slice none 0 0,.slice none 0 0,.slice none 0 0,.slice none 0 0,.int .i64 0,.int .i64 0,.int .i64 0,.int .i64 0]
 rw [World.size_alloc] at n1
 have B:=Lib.hid (bl_trans b1 b2)
 have NR:=Lib.hid n1
 have BH:=Lib.hid BT
 have HA:=Lib.hid hA
 have HL:=Lib.hid hl
 obtain ⟨q0,-⟩:=BT.blk.cell 0 _ rfl
 obtain ⟨q1,-⟩:=BT.blk.cell 1 _ rfl
 obtain ⟨q2,-⟩:=BT.blk.cell 2 _ rfl
 obtain ⟨q3,-⟩:=BT.blk.cell 3 _ rfl
 obtain ⟨q4,-⟩:=BT.blk.cell 4 _ rfl
 obtain ⟨q5,-⟩:=BT.blk.cell 5 _ rfl
 obtain ⟨q6,-⟩:=BT.blk.cell 6 _ rfl
 obtain ⟨q7,-⟩:=BT.blk.cell 7 _ rfl
 obtain ⟨q8,-⟩:=BT.blk.cell 8 _ rfl
 clear h BT n1 b1 b2 hA hl
 unfold maxLen at hn0
 rcases hv : okB b with _ | _
 ·obtain ⟨-,e2,e3⟩:=run_bad fl n hv
  rw [hv] at KV
  rw [runB_zB fl n (.inl hv),e2,e3]
  clear e2 e3 hv KCL HA HL
  unfold bV at *
  go_enter Try.func43,Try.ntmps43
  go_wp2_with (first
    | (go_at_call 17;refine (KV.out _ BH.out.rd).mono ?_;rintro e w1 ⟨rfl,hb⟩;have Ba:=Lib.hid (bl_trans B.out hb);have NRa:=Lib.hid (NR.out.below hb);clear hb)
    | ((with_reducible refine at_st 27 (.tmp 4) (.tmp 15) rfl ?_);(refine wpList_store_blk 27 9 rfl (.tmp 4) (.tmp 15) rfl iB (w.heap.size + 1) rfl [.slice none 0 0,.slice none 0 0,.slice none 0 0,.slice none 0 0,.slice none 0 0,.int .i64 0,.int .i64 0,.int .i64 0,.int .i64 0] rfl rfl (by simp [Value.oneCell']) _ NRa.out rfl ?_);intro w9 k9 g9))
  obtain ⟨z0,_⟩:=k9.cell 0 _ rfl
  obtain ⟨z1,_⟩:=k9.cell 1 _ rfl
  obtain ⟨z2,_⟩:=k9.cell 2 _ rfl
  obtain ⟨z3,_⟩:=k9.cell 3 _ rfl
  obtain ⟨z4,_⟩:=k9.cell 4 _ rfl
  obtain ⟨z5,_⟩:=k9.cell 5 _ rfl
  obtain ⟨z6,_⟩:=k9.cell 6 _ rfl
  obtain ⟨z7,_⟩:=k9.cell 7 _ rfl
  obtain ⟨z8,_⟩:=k9.cell 8 _ rfl
  exact bodyPost_ret (v:=.tuple #[.agg #[.slice none 0 0,.slice none 0 0,.slice none 0 0,.slice none 0 0,.slice none 0 0,.int .i64 0,.int .i64 0,.int .i64 0,.int .i64 0],.int .i64 0,.int .i64 1]) (by simp [results,Try.results43,go_sem,z0,z1,z2,z3,z4,z5,z6,z7,z8]) rfl ⟨zL,rfl,row5_z _ _,below_grown1 Ba.out g9 (by omega)⟩
 by_cases hn : n ≤ 100
 rotate_left
 ·obtain ⟨-,e2,e3⟩:=run_long fl n hv hn
  have hg : decide ((n : Int) > 100) = true:=decide_eq_true (by omega)
  rw [hv] at KV
  rw [runB_zB fl n (.inr hn),e2,e3]
  clear e2 e3 hv KCL HA HL hn
  unfold bV at *
  go_enter Try.func43,Try.ntmps43
  go_wp2_with (first
    | (go_at_call 17;refine (KV.out _ BH.out.rd).mono ?_;rintro e w1 ⟨rfl,hb⟩;have Ba:=Lib.hid (bl_trans B.out hb);have NRa:=Lib.hid (NR.out.below hb);clear hb)
    | ((with_reducible refine at_st 27 (.tmp 4) (.tmp 19) rfl ?_);(refine wpList_store_blk 27 9 rfl (.tmp 4) (.tmp 19) rfl iB (w.heap.size + 1) rfl [.slice none 0 0,.slice none 0 0,.slice none 0 0,.slice none 0 0,.slice none 0 0,.int .i64 0,.int .i64 0,.int .i64 0,.int .i64 0] rfl rfl (by simp [Value.oneCell']) _ NRa.out rfl ?_);intro w9 k9 g9))
  obtain ⟨z0,_⟩:=k9.cell 0 _ rfl
  obtain ⟨z1,_⟩:=k9.cell 1 _ rfl
  obtain ⟨z2,_⟩:=k9.cell 2 _ rfl
  obtain ⟨z3,_⟩:=k9.cell 3 _ rfl
  obtain ⟨z4,_⟩:=k9.cell 4 _ rfl
  obtain ⟨z5,_⟩:=k9.cell 5 _ rfl
  obtain ⟨z6,_⟩:=k9.cell 6 _ rfl
  obtain ⟨z7,_⟩:=k9.cell 7 _ rfl
  obtain ⟨z8,_⟩:=k9.cell 8 _ rfl
  exact bodyPost_ret (v:=.tuple #[.agg #[.slice none 0 0,.slice none 0 0,.slice none 0 0,.slice none 0 0,.slice none 0 0,.int .i64 0,.int .i64 0,.int .i64 0,.int .i64 0],.int .i64 0,.int .i64 3]) (by simp [results,Try.results43,go_sem,z0,z1,z2,z3,z4,z5,z6,z7,z8]) rfl ⟨zL,rfl,row5_z _ _,below_grown1 Ba.out g9 (by omega)⟩
 have hg : decide ((n : Int) > 100) = false:=decide_eq_false (by omega)
 have KSM:=Lib.hid (ok_of hv).sm
 have HBD:=Lib.hid (stopN_none b fl n)
 have HSTOP:=Lib.hid (fun k (hk : k < n) (ha : AppTo b fl k) (hh : accC b fl k ≠ 0)=>run_stop fl n k hv hn hk ha hh)
 have HALL:=Lib.hid (fun (ha : AppTo b fl n)=>run_all fl n hv hn ha)
 rw [hv] at KV
 clear hv HBD
 obtain ⟨rR,rN,rC,HSTOP,HALL⟩ : ∃ (rR : Bt) (rN rC : Int),Hid (∀ k,k < n → AppTo b fl k → accC b fl k ≠ 0 → rR = accB b fl k ∧ rN = k ∧ rC = accC b fl k) ∧ Hid (AppTo b fl n → rR = accB b fl n ∧ rN = n ∧ rC = 0) ∧ runB b fl n = rR ∧ runN b fl n = rN ∧ runC b fl n = rC:=⟨runB b fl n,runN b fl n,runC b fl n,HSTOP,HALL,rfl,rfl,rfl⟩
 obtain ⟨HALL,ee1,ee2,ee3⟩:=HALL
 rw [ee1,ee2,ee3]
 clear ee1 ee2 ee3
 have hn1 : n ≤ 100:=hn
 clear hn
 unfold bV at *
 go_enter Try.func43,Try.ntmps43
 go_wp2_with (first
  | (go_at_call 17;refine (KV.out _ BH.out.rd).mono ?_;rintro e w1 ⟨rfl,hb⟩;have Ba:=Lib.hid (bl_trans B.out hb);have NRa:=Lib.hid (NR.out.below hb);have BHa:=Lib.hid (BH.out.below hb);clear hb)
  | (go_at_call 85;refine (KCL.out KSM.out _ _ BHa.out).mono ?_;rintro e w2 ⟨g8,M,rfl,hg8,hn,hb⟩;have HG8:=Lib.hid hg8;have NBb:=Lib.hid hn;have NRb:=Lib.hid (NRa.out.below hb);have Bb:=Lib.hid (bl_trans Ba.out hb);have NBc:=hn.blk;obtain ⟨u0,-⟩:=NBc.cell 0 _ rfl;obtain ⟨u1,-⟩:=NBc.cell 1 _ rfl;obtain ⟨u2,-⟩:=NBc.cell 2 _ rfl;obtain ⟨u3,-⟩:=NBc.cell 3 _ rfl;obtain ⟨u4,-⟩:=NBc.cell 4 _ rfl;obtain ⟨u5,-⟩:=NBc.cell 5 _ rfl;obtain ⟨u6,-⟩:=NBc.cell 6 _ rfl;obtain ⟨u7,-⟩:=NBc.cell 7 _ rfl;obtain ⟨u8,-⟩:=NBc.cell 8 _ rfl;clear NBc hn hb))
 obtain ⟨gR,eg⟩ : ∃ g,g = w2.heap.size:=⟨_,rfl⟩
 obtain ⟨w3,e3⟩ : ∃ W,W = w2.alloc (.cells (btL M b).toArray 27):=⟨_,rfl⟩
 have hb3 : Below w2.heap.size w2 w3:=by rw [e3];exact bl_alloc (bl_refl _) _
 have D3 : Hid (Dn w (w.heap.size + 1 + 1) gR (w.heap.size + 1) M (accB b fl 0) w3):=Lib.hid ⟨by rw [e3,eg];exact blk_new w2 _ _,(NBb.out.rows.below hb3).less (by have:=NRa.out.lt;have:=HG8.out;omega),NRb.out.below hb3,bl_trans Bb.out hb3⟩
 have G3 : Hid (w.heap.size + 1 < gR):=by rw [eg];exact Lib.hid NRb.out.lt
 simp only [btL,List.toArray] at e3
 rw [← e3,← eg]
 clear e3 eg hb3 NBb NRb Bb q0 q1 q2 q3 q4 q5 q6 q7 q8 u0 u1 u2 u3 u4 u5 u6 u7 u8 KV KCL BH B NR Ba NRa BHa HG8
 go_loopw [25] (fun cnt wr=>∃ (k : Nat) (M : At5),k ≤ n ∧ cnt = .int .i64 k ∧ Hid (AppTo b fl k) ∧ Hid (Dn w (w.heap.size + 1 + 1) gR (w.heap.size + 1) M (accB b fl k) wr)) (fun cnt _=>n - (intOf cnt).toNat)
 case atStart=>exact ⟨0,M,Nat.zero_le _,rfl,Lib.hid (fun j hj=>by omega),D3⟩
 case round =>
  obtain ⟨k,M,hk,rfl,HT,HD⟩:=hrel
  clear D3
  have hw1 : Hid (w.heap.size + 1 + 1 ≤ wr.heap.size):=Lib.hid HD.out.res.lt
  by_cases hlt : k < n
  ·have hlt' : (k : Int) < n:=by omega
   obtain ⟨bA,oA,rfl,hcx⟩:=HA.out.at_ HD.out.all (k * 2) (by rw [HL.out];omega)
   obtain ⟨bA',oA',eA',hcy⟩:=HA.out.at_ HD.out.all (k * 2 + 1) (by rw [HL.out];omega)
   obtain ⟨rfl,rfl⟩ : bA = bA' ∧ oA = oA':=by simpa using eA'
   clear eA'
   have hcy' : wr.cell? ⟨bA,oA + k * 2 + 1,none⟩ = some (.int .i64 (nth fl (k * 2 + 1))):=hcy
   clear hcy
   have KAP:=Lib.hid (fun (W : World) (hW : Rd5 W M (accB b fl k))=>implApply_any M (accB b fl k) (nth fl (k * 2)) (nth fl (k * 2 + 1)) W hW)
   have HS:=Lib.hid (HSTOP.out k hlt HT.out)
   have HN:=Lib.hid (fun (e : accC b fl k = 0)=>(appTo_next HT.out e : AppTo b fl (k + 1)))
   have HR : Hid (accC b fl k = 0 → applyR (accB b fl k) (nth fl (k * 2)) (nth fl (k * 2 + 1)) = accB b fl (k + 1)):=Lib.hid (fun e=>by unfold applyR;rw [if_pos (show actC (accB b fl k) (nth fl (k * 2)) (nth fl (k * 2 + 1)) = 0 from e)];rfl)
   have EC : accC b fl k = actC (accB b fl k) (nth fl (k * 2)) (nth fl (k * 2 + 1)):=rfl
   rw [EC] at HS HN HR
   clear EC HT
   unfold NewBtC bV at KAP
   generalize actC (accB b fl k) (nth fl (k * 2)) (nth fl (k * 2 + 1)) = kc at *
   generalize applyR (accB b fl k) (nth fl (k * 2)) (nth fl (k * 2 + 1)) = r at *
   generalize nth fl (k * 2) = ka at *
   generalize nth fl (k * 2 + 1) = xa at *
   obtain ⟨c,ec⟩ : ∃ c,c = accB b fl k:=⟨_,rfl⟩
   rw [← ec] at HS KAP HD
   clear ec
   have X0:=Lib.hid (bl_alloc (bl_refl wr) (.cells ([.int .i64 ka,.int .i64 xa] : List Value).toArray 34))
   have NA0:=blk_new wr 34 [.int .i64 ka,.int .i64 xa]
   obtain ⟨p0,-⟩:=NA0.cell 0 _ rfl
   obtain ⟨p1,-⟩:=NA0.cell 1 _ rfl
   have D0b:=(HD.out.below X0.out).blk
   obtain ⟨u0,-⟩:=D0b.cell 0 _ rfl;obtain ⟨u1,-⟩:=D0b.cell 1 _ rfl;obtain ⟨u2,-⟩:=D0b.cell 2 _ rfl;obtain ⟨u3,-⟩:=D0b.cell 3 _ rfl;obtain ⟨u4,-⟩:=D0b.cell 4 _ rfl;obtain ⟨u5,-⟩:=D0b.cell 5 _ rfl;obtain ⟨u6,-⟩:=D0b.cell 6 _ rfl;obtain ⟨u7,-⟩:=D0b.cell 7 _ rfl;obtain ⟨u8,-⟩:=D0b.cell 8 _ rfl
   clear D0b NA0
   by_cases hc : kc = 0
   ·have hN:=Lib.hid (HN.out hc)
    have hR:=Lib.hid (HR.out hc)
    subst hc
    clear HS HN HR
    go_wp2_with (first
     | (go_at_call 22;refine (KAP.out _ (HD.out.below X0.out).rows.rd).mono ?_;rintro e w6 ⟨M2,rfl,hr,hb⟩;have hx:=bl_alloc (bl_refl w6) (.cells (btL M2 r).toArray 27);have NG6:=Lib.hid (blk_new w6 27 (btL M2 r));have R6:=Lib.hid ((hr.less (show wr.heap.size ≤ _ from X0.out.size)).below hx);have X6:=Lib.hid (bl_trans (bl_trans X0.out hb) hx);have D6b:=(HD.out.below X6.out).blk;obtain ⟨v0,-⟩:=D6b.cell 0 _ rfl;obtain ⟨v1,-⟩:=D6b.cell 1 _ rfl;obtain ⟨v2,-⟩:=D6b.cell 2 _ rfl;obtain ⟨v3,-⟩:=D6b.cell 3 _ rfl;obtain ⟨v4,-⟩:=D6b.cell 4 _ rfl;obtain ⟨v5,-⟩:=D6b.cell 5 _ rfl;obtain ⟨v6,-⟩:=D6b.cell 6 _ rfl;obtain ⟨v7,-⟩:=D6b.cell 7 _ rfl;obtain ⟨v8,-⟩:=D6b.cell 8 _ rfl;have NG6b:=NG6.out;obtain ⟨s0,-⟩:=NG6b.cell 0 _ rfl;obtain ⟨s1,-⟩:=NG6b.cell 1 _ rfl;obtain ⟨s2,-⟩:=NG6b.cell 2 _ rfl;obtain ⟨s3,-⟩:=NG6b.cell 3 _ rfl;obtain ⟨s4,-⟩:=NG6b.cell 4 _ rfl;obtain ⟨s5,-⟩:=NG6b.cell 5 _ rfl;obtain ⟨s6,-⟩:=NG6b.cell 6 _ rfl;obtain ⟨s7,-⟩:=NG6b.cell 7 _ rfl;obtain ⟨s8,-⟩:=NG6b.cell 8 _ rfl;clear hr hb hx D6b NG6b)
     | ((with_reducible refine at_st 27 (.tmp 7) (.tmp 41) rfl ?_);(refine wpList_store_blk 27 9 rfl (.tmp 7) (.tmp 41) rfl iB gR rfl [.slice M2.a1 r.st.length M2.c1,.slice M2.a2 r.bt.length M2.c2,.slice M2.a3 r.pd.length M2.c3,.slice M2.a4 r.fo.length M2.c4,.slice M2.a5 r.ac.length M2.c5,.int .i64 r.tu,.int .i64 r.un,.int .i64 r.ra,.int .i64 r.li] rfl rfl (by simp [Value.oneCell']) _ (HD.out.below X6.out).blk rfl ?_);intro w9 k9 g9))
    have D7 : Hid (Dn w (w.heap.size + 1 + 1) gR (w.heap.size + 1) M2 (accB b fl (k + 1)) w9):=by rw [← hR.out];exact Lib.hid (HD.out.put X6.out R6.out k9 g9 hw1.out (by have:=G3.out;omega) (by have:=G3.out;omega))
    go_roundw
    case rel=>exact ⟨k + 1,M2,by omega,by go_num,hN,D7⟩
    case measure=>simp [intOf];omega
   ·obtain ⟨rfl,rfl,rfl⟩:=HS.out hc
    have hc' : (rC != 0) = true:=by simpa using hc
    clear HS HN HR hc
    go_wp2_with (first
     | (go_at_call 22;refine (KAP.out _ (HD.out.below X0.out).rows.rd).mono ?_;rintro e w6 ⟨M2,rfl,hr,hb⟩;have hx:=bl_alloc (bl_refl w6) (.cells (btL M2 r).toArray 27);have NG6:=Lib.hid (blk_new w6 27 (btL M2 r));have R6:=Lib.hid ((hr.less (show wr.heap.size ≤ _ from X0.out.size)).below hx);have X6:=Lib.hid (bl_trans (bl_trans X0.out hb) hx);have D6b:=(HD.out.below X6.out).blk;obtain ⟨v0,-⟩:=D6b.cell 0 _ rfl;obtain ⟨v1,-⟩:=D6b.cell 1 _ rfl;obtain ⟨v2,-⟩:=D6b.cell 2 _ rfl;obtain ⟨v3,-⟩:=D6b.cell 3 _ rfl;obtain ⟨v4,-⟩:=D6b.cell 4 _ rfl;obtain ⟨v5,-⟩:=D6b.cell 5 _ rfl;obtain ⟨v6,-⟩:=D6b.cell 6 _ rfl;obtain ⟨v7,-⟩:=D6b.cell 7 _ rfl;obtain ⟨v8,-⟩:=D6b.cell 8 _ rfl;have NG6b:=NG6.out;obtain ⟨s0,-⟩:=NG6b.cell 0 _ rfl;obtain ⟨s1,-⟩:=NG6b.cell 1 _ rfl;obtain ⟨s2,-⟩:=NG6b.cell 2 _ rfl;obtain ⟨s3,-⟩:=NG6b.cell 3 _ rfl;obtain ⟨s4,-⟩:=NG6b.cell 4 _ rfl;obtain ⟨s5,-⟩:=NG6b.cell 5 _ rfl;obtain ⟨s6,-⟩:=NG6b.cell 6 _ rfl;obtain ⟨s7,-⟩:=NG6b.cell 7 _ rfl;obtain ⟨s8,-⟩:=NG6b.cell 8 _ rfl;clear hr hb hx D6b NG6b)
     | ((with_reducible refine at_st 27 (.tmp 4) (.tmp 38) rfl ?_);(refine wpList_store_blk 27 9 rfl (.tmp 4) (.tmp 38) rfl iB (w.heap.size + 1) rfl [.slice M.a1 rR.st.length M.c1,.slice M.a2 rR.bt.length M.c2,.slice M.a3 rR.pd.length M.c3,.slice M.a4 rR.fo.length M.c4,.slice M.a5 rR.ac.length M.c5,.int .i64 rR.tu,.int .i64 rR.un,.int .i64 rR.ra,.int .i64 rR.li] rfl rfl (by simp [Value.oneCell']) _ (HD.out.below X6.out).res rfl ?_);intro w9 k9 g9))
    obtain ⟨z0,_⟩:=k9.cell 0 _ rfl
    obtain ⟨z1,_⟩:=k9.cell 1 _ rfl
    obtain ⟨z2,_⟩:=k9.cell 2 _ rfl
    obtain ⟨z3,_⟩:=k9.cell 3 _ rfl
    obtain ⟨z4,_⟩:=k9.cell 4 _ rfl
    obtain ⟨z5,_⟩:=k9.cell 5 _ rfl
    obtain ⟨z6,_⟩:=k9.cell 6 _ rfl
    obtain ⟨z7,_⟩:=k9.cell 7 _ rfl
    obtain ⟨z8,_⟩:=k9.cell 8 _ rfl
    exact bodyPost_ret (v:=.tuple #[.agg #[.slice M.a1 rR.st.length M.c1,.slice M.a2 rR.bt.length M.c2,.slice M.a3 rR.pd.length M.c3,.slice M.a4 rR.fo.length M.c4,.slice M.a5 rR.ac.length M.c5,.int .i64 rR.tu,.int .i64 rR.un,.int .i64 rR.ra,.int .i64 rR.li],.int .i64 k,.int .i64 rC]) (by simp [results,Try.results43,go_sem,z0,z1,z2,z3,z4,z5,z6,z7,z8]) rfl ⟨M,rfl,(((HD.out.below X6.out).rows.grownB' g9 (by omega)).less (by omega)),(below_grown1 (HD.out.below X6.out).all g9 (by omega))⟩

  ·obtain rfl : k = n:=by omega
   obtain ⟨rfl,rfl,rfl⟩:=HALL.out HT.out
   obtain ⟨c,ec⟩ : ∃ c,c = accB b fl k:=⟨_,rfl⟩
   rw [← ec] at HD
   have EC:=Lib.hid ec
   clear ec
   have D0b:=HD.out.blk
   obtain ⟨u0,-⟩:=D0b.cell 0 _ rfl;obtain ⟨u1,-⟩:=D0b.cell 1 _ rfl;obtain ⟨u2,-⟩:=D0b.cell 2 _ rfl;obtain ⟨u3,-⟩:=D0b.cell 3 _ rfl;obtain ⟨u4,-⟩:=D0b.cell 4 _ rfl;obtain ⟨u5,-⟩:=D0b.cell 5 _ rfl;obtain ⟨u6,-⟩:=D0b.cell 6 _ rfl;obtain ⟨u7,-⟩:=D0b.cell 7 _ rfl;obtain ⟨u8,-⟩:=D0b.cell 8 _ rfl
   clear D0b
   go_wp2_with (first
    | ((with_reducible refine at_st 27 (.tmp 4) (.tmp 43) rfl ?_);(refine wpList_store_blk 27 9 rfl (.tmp 4) (.tmp 43) rfl iB (w.heap.size + 1) rfl [.slice M.a1 c.st.length M.c1,.slice M.a2 c.bt.length M.c2,.slice M.a3 c.pd.length M.c3,.slice M.a4 c.fo.length M.c4,.slice M.a5 c.ac.length M.c5,.int .i64 c.tu,.int .i64 c.un,.int .i64 c.ra,.int .i64 c.li] rfl rfl (by simp [Value.oneCell']) _ HD.out.res rfl ?_);intro w9 k9 g9))
   obtain ⟨z0,_⟩:=k9.cell 0 _ rfl
   obtain ⟨z1,_⟩:=k9.cell 1 _ rfl
   obtain ⟨z2,_⟩:=k9.cell 2 _ rfl
   obtain ⟨z3,_⟩:=k9.cell 3 _ rfl
   obtain ⟨z4,_⟩:=k9.cell 4 _ rfl
   obtain ⟨z5,_⟩:=k9.cell 5 _ rfl
   obtain ⟨z6,_⟩:=k9.cell 6 _ rfl
   obtain ⟨z7,_⟩:=k9.cell 7 _ rfl
   obtain ⟨z8,_⟩:=k9.cell 8 _ rfl
   have R9 : Row5 w9 w.heap.size M c:=(HD.out.rows.grownB' g9 (by omega)).less (by omega)
   have B9 : Below w.heap.size w w9:=below_grown1 HD.out.all g9 (by omega)
   exact bodyPost_ret (v:=.tuple #[.agg #[.slice M.a1 c.st.length M.c1,.slice M.a2 c.bt.length M.c2,.slice M.a3 c.pd.length M.c3,.slice M.a4 c.fo.length M.c4,.slice M.a5 c.ac.length M.c5,.int .i64 c.tu,.int .i64 c.un,.int .i64 c.ra,.int .i64 c.li],.int .i64 k,.int .i64 0]) (by simp [results,Try.results43,go_sem,z0,z1,z2,z3,z4,z5,z6,z7,z8]) rfl (by show NewBtNC (accB b fl k) _ _ _ _ _;rw [← EC.out];exact ⟨M,rfl,R9,B9⟩)

set_option maxRecDepth 100000 in
set_option maxHeartbeats 4000000 in
theorem specRun_any (L : At5) (b : Bt) (A : Option Addr) (cA : Nat) (fl : List Int) (n : Nat) (w : World) (h : Rd5 w L b) (hA : Rd w A fl) (hl : fl.length = n * 2) (z : Sz b) (hn0 : n ≤ maxLen) :
  Calls Try.prog 44 #[bV L b,.slice A n cA] w (NewBtNC (runB b fl n) (runN b fl n) (runC b fl n) w):=by
 have KV:=Lib.hid (fun (W : World) (hW : Rd5 W L b)=>specIsBetting_any L b W hW z)
 have KCL:=Lib.hid (fun (kk : Sm b) (W : World) (hW : Rd5 W L b)=>l10OwnX_any L b W hW kk)
 have iB : (Try.prog.info? 27).map (·.size) = some 9:=by kernel_rfl
 have iA : (Try.prog.info? 34).map (·.size) = some 2:=by kernel_rfl
 have hmx : Try.prog.follows .mixedOrders = true:=by kernel_rfl
 have b1:=bl_box (w:=w) (L:=L) (b:=b)
 have b2:=bl_alloc (bl_refl (w.alloc (.cells (btL L b).toArray 27))) (.cells ([.slice none 0 0,.slice none 0 0,.slice none 0 0,.slice none 0 0,.slice none 0 0,.int .i64 0,.int .i64 0,.int .i64 0,.int .i64 0] : List Value).toArray 27)
 have BT:=(btAt_new h).below b2
 have n1:=blk_new (w.alloc (.cells (btL L b).toArray 27)) 27 [.slice none 0 0,.slice none 0 0,.slice none 0 0,.slice none 0 0,.slice none 0 0,.int .i64 0,.int .i64 0,.int .i64 0,.int .i64 0]
 rw [World.size_alloc] at n1
 have B:=Lib.hid (bl_trans b1 b2)
 have NR:=Lib.hid n1
 have BH:=Lib.hid BT
 have HA:=Lib.hid hA
 have HL:=Lib.hid hl
 obtain ⟨q0,-⟩:=BT.blk.cell 0 _ rfl
 obtain ⟨q1,-⟩:=BT.blk.cell 1 _ rfl
 obtain ⟨q2,-⟩:=BT.blk.cell 2 _ rfl
 obtain ⟨q3,-⟩:=BT.blk.cell 3 _ rfl
 obtain ⟨q4,-⟩:=BT.blk.cell 4 _ rfl
 obtain ⟨q5,-⟩:=BT.blk.cell 5 _ rfl
 obtain ⟨q6,-⟩:=BT.blk.cell 6 _ rfl
 obtain ⟨q7,-⟩:=BT.blk.cell 7 _ rfl
 obtain ⟨q8,-⟩:=BT.blk.cell 8 _ rfl
 clear h z BT n1 b1 b2 hA hl
 unfold maxLen at hn0
 rcases hv : okB b with _ | _
 ·obtain ⟨-,e2,e3⟩:=run_bad fl n hv
  rw [hv] at KV
  rw [runB_zB fl n (.inl hv),e2,e3]
  clear e2 e3 hv KCL HA HL
  unfold bV at *
  go_enter Try.func44,Try.ntmps44
  go_wp2_with (first
    | (go_at_call 18;refine (KV.out _ BH.out.rd).mono ?_;rintro e w1 ⟨rfl,hb⟩;have Ba:=Lib.hid (bl_trans B.out hb);have NRa:=Lib.hid (NR.out.below hb);clear hb)
    | ((with_reducible refine at_st 27 (.tmp 4) (.tmp 13) rfl ?_);(refine wpList_store_blk 27 9 rfl (.tmp 4) (.tmp 13) rfl iB (w.heap.size + 1) rfl [.slice none 0 0,.slice none 0 0,.slice none 0 0,.slice none 0 0,.slice none 0 0,.int .i64 0,.int .i64 0,.int .i64 0,.int .i64 0] rfl rfl (by simp [Value.oneCell']) _ NRa.out rfl ?_);intro w9 k9 g9))
  obtain ⟨z0,_⟩:=k9.cell 0 _ rfl
  obtain ⟨z1,_⟩:=k9.cell 1 _ rfl
  obtain ⟨z2,_⟩:=k9.cell 2 _ rfl
  obtain ⟨z3,_⟩:=k9.cell 3 _ rfl
  obtain ⟨z4,_⟩:=k9.cell 4 _ rfl
  obtain ⟨z5,_⟩:=k9.cell 5 _ rfl
  obtain ⟨z6,_⟩:=k9.cell 6 _ rfl
  obtain ⟨z7,_⟩:=k9.cell 7 _ rfl
  obtain ⟨z8,_⟩:=k9.cell 8 _ rfl
  exact bodyPost_ret (v:=.tuple #[.agg #[.slice none 0 0,.slice none 0 0,.slice none 0 0,.slice none 0 0,.slice none 0 0,.int .i64 0,.int .i64 0,.int .i64 0,.int .i64 0],.int .i64 0,.int .i64 1]) (by simp [results,Try.results44,go_sem,z0,z1,z2,z3,z4,z5,z6,z7,z8]) rfl ⟨zL,rfl,row5_z _ _,below_grown1 Ba.out g9 (by omega)⟩
 by_cases hn : n ≤ 100
 rotate_left
 ·obtain ⟨-,e2,e3⟩:=run_long fl n hv hn
  have hg : decide ((n : Int) > 100) = true:=decide_eq_true (by omega)
  rw [hv] at KV
  rw [runB_zB fl n (.inr hn),e2,e3]
  clear e2 e3 hv KCL HA HL hn
  unfold bV at *
  go_enter Try.func44,Try.ntmps44
  go_wp2_with (first
    | (go_at_call 18;refine (KV.out _ BH.out.rd).mono ?_;rintro e w1 ⟨rfl,hb⟩;have Ba:=Lib.hid (bl_trans B.out hb);have NRa:=Lib.hid (NR.out.below hb);clear hb)
    | ((with_reducible refine at_st 27 (.tmp 4) (.tmp 17) rfl ?_);(refine wpList_store_blk 27 9 rfl (.tmp 4) (.tmp 17) rfl iB (w.heap.size + 1) rfl [.slice none 0 0,.slice none 0 0,.slice none 0 0,.slice none 0 0,.slice none 0 0,.int .i64 0,.int .i64 0,.int .i64 0,.int .i64 0] rfl rfl (by simp [Value.oneCell']) _ NRa.out rfl ?_);intro w9 k9 g9))
  obtain ⟨z0,_⟩:=k9.cell 0 _ rfl
  obtain ⟨z1,_⟩:=k9.cell 1 _ rfl
  obtain ⟨z2,_⟩:=k9.cell 2 _ rfl
  obtain ⟨z3,_⟩:=k9.cell 3 _ rfl
  obtain ⟨z4,_⟩:=k9.cell 4 _ rfl
  obtain ⟨z5,_⟩:=k9.cell 5 _ rfl
  obtain ⟨z6,_⟩:=k9.cell 6 _ rfl
  obtain ⟨z7,_⟩:=k9.cell 7 _ rfl
  obtain ⟨z8,_⟩:=k9.cell 8 _ rfl
  exact bodyPost_ret (v:=.tuple #[.agg #[.slice none 0 0,.slice none 0 0,.slice none 0 0,.slice none 0 0,.slice none 0 0,.int .i64 0,.int .i64 0,.int .i64 0,.int .i64 0],.int .i64 0,.int .i64 3]) (by simp [results,Try.results44,go_sem,z0,z1,z2,z3,z4,z5,z6,z7,z8]) rfl ⟨zL,rfl,row5_z _ _,below_grown1 Ba.out g9 (by omega)⟩
 have hg : decide ((n : Int) > 100) = false:=decide_eq_false (by omega)
 have KSM:=Lib.hid (ok_of hv).sm
 have HBD:=Lib.hid (stopN_none b fl n)
 have HSTOP:=Lib.hid (fun k (hk : k < n) (ha : AppTo b fl k) (hh : accC b fl k ≠ 0)=>run_stop fl n k hv hn hk ha hh)
 have HALL:=Lib.hid (fun (ha : AppTo b fl n)=>run_all fl n hv hn ha)
 rw [hv] at KV
 clear hv HBD
 obtain ⟨rR,rN,rC,HSTOP,HALL⟩ : ∃ (rR : Bt) (rN rC : Int),Hid (∀ k,k < n → AppTo b fl k → accC b fl k ≠ 0 → rR = accB b fl k ∧ rN = k ∧ rC = accC b fl k) ∧ Hid (AppTo b fl n → rR = accB b fl n ∧ rN = n ∧ rC = 0) ∧ runB b fl n = rR ∧ runN b fl n = rN ∧ runC b fl n = rC:=⟨runB b fl n,runN b fl n,runC b fl n,HSTOP,HALL,rfl,rfl,rfl⟩
 obtain ⟨HALL,ee1,ee2,ee3⟩:=HALL
 rw [ee1,ee2,ee3]
 clear ee1 ee2 ee3
 have hn1 : n ≤ 100:=hn
 clear hn
 unfold bV NewBx at *
 go_enter Try.func44,Try.ntmps44
 go_wp2_with (first
  | (go_at_call 18;refine (KV.out _ BH.out.rd).mono ?_;rintro e w1 ⟨rfl,hb⟩;have Ba:=Lib.hid (bl_trans B.out hb);have NRa:=Lib.hid (NR.out.below hb);have BHa:=Lib.hid (BH.out.below hb);have BHb:=BHa.out.blk;obtain ⟨u0,-⟩:=BHb.cell 0 _ rfl;obtain ⟨u1,-⟩:=BHb.cell 1 _ rfl;obtain ⟨u2,-⟩:=BHb.cell 2 _ rfl;obtain ⟨u3,-⟩:=BHb.cell 3 _ rfl;obtain ⟨u4,-⟩:=BHb.cell 4 _ rfl;obtain ⟨u5,-⟩:=BHb.cell 5 _ rfl;obtain ⟨u6,-⟩:=BHb.cell 6 _ rfl;obtain ⟨u7,-⟩:=BHb.cell 7 _ rfl;obtain ⟨u8,-⟩:=BHb.cell 8 _ rfl;clear hb BHb)
  | (go_at_call 112;refine (KCL.out KSM.out _ BHa.out.rd).mono ?_;rintro e w2 ⟨M,rfl,hr,hb⟩;have R2:=Lib.hid hr;have NRb:=Lib.hid (NRa.out.below hb);have Bb:=Lib.hid (bl_trans Ba.out hb);have Xb:=Lib.hid hb;clear hr hb)
  | ((with_reducible refine at_st 27 (.tmp 2) (.tmp 19) rfl ?_);(refine wpList_store_blk 27 9 rfl (.tmp 2) (.tmp 19) rfl iB w.heap.size rfl [.slice M.a1 b.st.length M.c1,.slice M.a2 b.bt.length M.c2,.slice M.a3 b.pd.length M.c3,.slice M.a4 b.fo.length M.c4,.slice M.a5 b.ac.length M.c5,.int .i64 b.tu,.int .i64 b.un,.int .i64 b.ra,.int .i64 b.li] rfl rfl (by simp [Value.oneCell']) _ (BHa.out.below Xb.out).blk rfl ?_);intro w3 k9 g9;have D3 : Hid (Dn w (w.heap.size + 1 + 1) w.heap.size (w.heap.size + 1) M (accB b fl 0) w3):=Lib.hid ⟨k9,(R2.out.grownB' g9 (by have:=BHa.out.blk.lt;omega)).less (by have:=NRa.out.lt;omega),NRb.out.grown g9 (fun e=>by have:=Option.some.inj e;omega),below_grown1 Bb.out g9 (Nat.le_refl _)⟩;clear k9 g9))
 clear q0 q1 q2 q3 q4 q5 q6 q7 q8 u0 u1 u2 u3 u4 u5 u6 u7 u8 KV KCL BH B NR Ba NRa BHa R2 NRb Bb Xb
 go_loopw [7] (fun cnt wr=>∃ (k : Nat) (M : At5),k ≤ n ∧ cnt = .int .i64 k ∧ Hid (AppTo b fl k) ∧ Hid (Dn w (w.heap.size + 1 + 1) w.heap.size (w.heap.size + 1) M (accB b fl k) wr)) (fun cnt _=>n - (intOf cnt).toNat)
 case atStart=>exact ⟨0,M,Nat.zero_le _,rfl,Lib.hid (fun j hj=>by omega),D3⟩
 case round =>
  obtain ⟨k,M,hk,rfl,HT,HD⟩:=hrel
  clear D3
  have hw1 : Hid (w.heap.size + 1 + 1 ≤ wr.heap.size):=Lib.hid HD.out.res.lt
  by_cases hlt : k < n
  ·have hlt' : (k : Int) < n:=by omega
   obtain ⟨bA,oA,rfl,hcx⟩:=HA.out.at_ HD.out.all (k * 2) (by rw [HL.out];omega)
   obtain ⟨bA',oA',eA',hcy⟩:=HA.out.at_ HD.out.all (k * 2 + 1) (by rw [HL.out];omega)
   obtain ⟨rfl,rfl⟩ : bA = bA' ∧ oA = oA':=by simpa using eA'
   clear eA'
   have hcy' : wr.cell? ⟨bA,oA + k * 2 + 1,none⟩ = some (.int .i64 (nth fl (k * 2 + 1))):=hcy
   clear hcy
   have KAP:=Lib.hid (fun (W : World) (hW : Rd5 W M (accB b fl k)) (z : Sz (accB b fl k))=>specApply_any M (accB b fl k) (nth fl (k * 2)) (nth fl (k * 2 + 1)) W hW z)
   have HZ : Hid (Sz (accB b fl k)):=Lib.hid (by
    obtain ⟨e1,e2,e3,e4,e5⟩:=acc_lens b fl k
    have m:=KSM.out
    exact ⟨by rw [e1];have:=m.m1;omega,by rw [e2];have:=m.m2;omega,by rw [e3];have:=m.m3;omega⟩)
   have HS:=Lib.hid (HSTOP.out k hlt HT.out)
   have HN:=Lib.hid (fun (e : accC b fl k = 0)=>(appTo_next HT.out e : AppTo b fl (k + 1)))
   have HR : Hid (accC b fl k = 0 → applyR (accB b fl k) (nth fl (k * 2)) (nth fl (k * 2 + 1)) = accB b fl (k + 1)):=Lib.hid (fun e=>by unfold applyR;rw [if_pos (show actC (accB b fl k) (nth fl (k * 2)) (nth fl (k * 2 + 1)) = 0 from e)];rfl)
   have EC : accC b fl k = actC (accB b fl k) (nth fl (k * 2)) (nth fl (k * 2 + 1)):=rfl
   rw [EC] at HS HN HR
   clear EC HT
   unfold NewBtC bV at KAP
   generalize actC (accB b fl k) (nth fl (k * 2)) (nth fl (k * 2 + 1)) = kc at *
   generalize applyR (accB b fl k) (nth fl (k * 2)) (nth fl (k * 2 + 1)) = r at *
   generalize nth fl (k * 2) = ka at *
   generalize nth fl (k * 2 + 1) = xa at *
   obtain ⟨c,ec⟩ : ∃ c,c = accB b fl k:=⟨_,rfl⟩
   rw [← ec] at HS KAP HD HZ
   clear ec
   have H1 : Hid (∀ W',Below wr.heap.size wr W' → W'.cell? ⟨bA,oA + k * 2,none⟩ = some (.int .i64 ka)):=Lib.hid (fun W' hI=>(hI.cell (p:=⟨bA,oA + k * 2,none⟩) (World.block_lt_of_cell? _ _ hcx)).trans hcx)
   have H2 : Hid (∀ W',Below wr.heap.size wr W' → W'.cell? ⟨bA,oA + k * 2 + 1,none⟩ = some (.int .i64 xa)):=Lib.hid (fun W' hI=>(hI.cell (p:=⟨bA,oA + k * 2 + 1,none⟩) (World.block_lt_of_cell? _ _ hcy')).trans hcy')
   clear hcx hcy'
   go_wp2_with fail
   refine wp_region_W (last:=11) (k:=11) hmx rfl (fun HC0=>?_)
   refine wpAnyR_takeL (i:=0) (kw:=4) (v:=.agg #[.slice M.a1 c.st.length M.c1,.slice M.a2 c.bt.length M.c2,.slice M.a3 c.pd.length M.c3,.slice M.a4 c.fo.length M.c4,.slice M.a5 c.ac.length M.c5,.int .i64 c.tu,.int .i64 c.un,.int .i64 c.ra,.int .i64 c.li]) (fun _=>bl_refl _) (fun p q=>bl_trans p q) rfl rfl (by kernel_rfl) (by kernel_rfl) (by kernel_rfl) (by kernel_rfl) (fun _ _ _ h=>h) HC0 (Or.inl ⟨by kernel_rfl,fun W' hI=>?_⟩) (fun HC1=>?_)
   ·have hv:=(HD.out.blk).below hI
    obtain ⟨z0,_⟩:=hv.cell 0 _ rfl
    obtain ⟨z1,_⟩:=hv.cell 1 _ rfl
    obtain ⟨z2,_⟩:=hv.cell 2 _ rfl
    obtain ⟨z3,_⟩:=hv.cell 3 _ rfl
    obtain ⟨z4,_⟩:=hv.cell 4 _ rfl
    obtain ⟨z5,_⟩:=hv.cell 5 _ rfl
    obtain ⟨z6,_⟩:=hv.cell 6 _ rfl
    obtain ⟨z7,_⟩:=hv.cell 7 _ rfl
    obtain ⟨z8,_⟩:=hv.cell 8 _ rfl
    exact .inl (by go_simp)
   refine wpAnyR_takeL (i:=1) (kw:=6) (v:=.slice (some ⟨bA,oA,none⟩) n cA) (fun _=>bl_refl _) (fun p q=>bl_trans p q) rfl rfl (by kernel_rfl) (by kernel_rfl) (by kernel_rfl) (by kernel_rfl) (fun _ _ _ h=>h) HC1 (Or.inl ⟨by kernel_rfl,fun W' hI=>?_⟩) (fun HC2=>?_)
   ·exact .inl (by go_simp)
   refine wpAnyR_takeL (i:=2) (kw:=6) (v:=.int .i64 k) (fun _=>bl_refl _) (fun p q=>bl_trans p q) rfl rfl (by kernel_rfl) (by kernel_rfl) (by kernel_rfl) (by kernel_rfl) (fun _ _ _ h=>h) HC2 (Or.inl ⟨by kernel_rfl,fun W' hI=>?_⟩) (fun HC3=>?_)
   ·exact .inl (by go_simp)
   refine wpAnyR_takeL (i:=3) (kw:=5) (v:=.pointer (some ⟨bA,oA + k * 2,none⟩)) (fun _=>bl_refl _) (fun p q=>bl_trans p q) rfl rfl (by kernel_rfl) (by kernel_rfl) (by kernel_rfl) (by kernel_rfl) (fun _ _ _ h=>h) HC3 (Or.inl ⟨by kernel_rfl,fun W' hI=>?_⟩) (fun HC4=>?_)
   ·exact .inl (by go_simp)
   refine wpAnyR_takeL (i:=4) (kw:=4) (v:=.agg #[.int .i64 ka,.int .i64 xa]) (fun _=>bl_refl _) (fun p q=>bl_trans p q) rfl rfl (by kernel_rfl) (by kernel_rfl) (by kernel_rfl) (by kernel_rfl) (fun _ _ _ h=>h) HC4 (Or.inl ⟨by kernel_rfl,fun W' hI=>?_⟩) (fun HC5=>?_)
   ·have hx0:=H1.out W' hI
    have hx1:=H2.out W' hI
    exact .inl (by go_simp)
   refine wpAnyR_twoU HC5 (i:=5) (j:=9) (by kernel_rfl) rfl rfl (by kernel_rfl) (by kernel_rfl) (fun _ hr=>bl_drewT hr) (fun w5 hr K hK=>?oA) (fun w5 hr K hK=>?oB)
   case' oA =>
    have X6:=Lib.hid (bl_drewT hr)
    have KA6:=Lib.hid (KAP.out w5 (HD.out.below X6.out).rows.rd HZ.out)
    clear hr
    go_simp
    go_wp2_with (go_at_call 23;refine KA6.out.mono ?_;rintro e w6 ⟨M2,rfl,ho,hb⟩;have R6:=Lib.hid (ho.less X6.out.size);have X6b:=Lib.hid (bl_trans X6.out hb);clear ho hb KA6 X6)
    intro HC6
    refine wpAnyR_takeL (i:=6) (kw:=4) (v:=.tuple #[.agg #[.slice M2.a1 r.st.length M2.c1,.slice M2.a2 r.bt.length M2.c2,.slice M2.a3 r.pd.length M2.c3,.slice M2.a4 r.fo.length M2.c4,.slice M2.a5 r.ac.length M2.c5,.int .i64 r.tu,.int .i64 r.un,.int .i64 r.ra,.int .i64 r.li],.int .i64 kc]) (fun _=>bl_refl _) (fun p q=>bl_trans p q) rfl rfl (by kernel_rfl) (by kernel_rfl) (by kernel_rfl) (by kernel_rfl) (fun _ _ _ h=>h) HC6 (Or.inl ⟨by kernel_rfl,fun W' hI=>?_⟩) (fun HC6x=>?_)
    ·exact .inl (by go_simp)
    refine wpAnyR_takeL (i:=7) (kw:=3) (v:=.agg #[.slice M2.a1 r.st.length M2.c1,.slice M2.a2 r.bt.length M2.c2,.slice M2.a3 r.pd.length M2.c3,.slice M2.a4 r.fo.length M2.c4,.slice M2.a5 r.ac.length M2.c5,.int .i64 r.tu,.int .i64 r.un,.int .i64 r.ra,.int .i64 r.li]) (fun _=>bl_refl _) (fun p q=>bl_trans p q) rfl rfl (by kernel_rfl) (by kernel_rfl) (by kernel_rfl) (by kernel_rfl) (fun _ _ _ h=>h) HC6x (Or.inl ⟨by kernel_rfl,fun W' hI=>?_⟩) (fun HC6xx=>?_)
    ·exact .inl (by go_simp)
    refine wpAnyR_takeL (i:=8) (kw:=1) (v:=.int .i64 kc) (fun _=>bl_refl _) (fun p q=>bl_trans p q) rfl rfl (by kernel_rfl) (by kernel_rfl) (by kernel_rfl) (by kernel_rfl) (fun _ _ _ h=>h) HC6xx (Or.inl ⟨by kernel_rfl,fun W' hI=>?_⟩) (fun HC6xxx=>?_)
    ·exact .inl (by go_simp)
    refine wpAnyR_oneL HC6xxx (i:=9) (by kernel_rfl) rfl (by kernel_rfl) (fun w7 hr=>⟨bl_trans X6b.out hr,?_⟩)
    intro K hK
    have hx:=bl_trans (bl_trans X6b.out hr) (bl_alloc (bl_refl w7) (.cells ([.slice none 0 0,.slice none 0 0,.slice none 0 0,.slice none 0 0,.slice none 0 0,.int .i64 0,.int .i64 0,.int .i64 0,.int .i64 0] : List Value).toArray 27))
    have X7:=Lib.hid hx
    have R6r:=R6.out.below hr
    have R7:=Lib.hid (R6r.below (bl_alloc (bl_refl w7) (.cells ([.slice none 0 0,.slice none 0 0,.slice none 0 0,.slice none 0 0,.slice none 0 0,.int .i64 0,.int .i64 0,.int .i64 0,.int .i64 0] : List Value).toArray 27)))
    have HI7:=Lib.hid R6r.hi
    have NB7:=Lib.hid (blk_new w7 27 [.slice none 0 0,.slice none 0 0,.slice none 0 0,.slice none 0 0,.slice none 0 0,.int .i64 0,.int .i64 0,.int .i64 0,.int .i64 0])
    have g8l : Hid (wr.heap.size ≤ w7.heap.size):=Lib.hid (bl_trans X6b.out hr).size
    clear hx hr R6r R6 X6b
    go_simp
    refine hK _ _ ?_
    clear hK K
    intro HCz
    simp only [List.toArray] at X7 R7 NB7
    generalize w7.heap.size = g8 at *
    refine wpAnyR_oneL HCz (i:=10) (by kernel_rfl) rfl (by kernel_rfl) (fun wS hr=>⟨bl_trans X7.out hr,?_⟩)
    intro K hK
    have XS:=Lib.hid (bl_trans X7.out hr)
    have R8:=Lib.hid (R7.out.below hr)
    have NB8:=Lib.hid (NB7.out.below hr)
    clear hr
    try simp only [Act.put,List.setIfInBounds_toArray,List.set_cons_succ,List.set_cons_zero]
    refine wp_store_blk 27 9 (.tmp 8) (.tmp 33) rfl iB g8 rfl [.slice M2.a1 r.st.length M2.c1,.slice M2.a2 r.bt.length M2.c2,.slice M2.a3 r.pd.length M2.c3,.slice M2.a4 r.fo.length M2.c4,.slice M2.a5 r.ac.length M2.c5,.int .i64 r.tu,.int .i64 r.un,.int .i64 r.ra,.int .i64 r.li] rfl rfl (by simp [Value.oneCell']) _ NB8.out rfl ?_
    intro wU k8 gU
    have R9:=Lib.hid (R8.out.grownA gU HI7.out)
    have XU:=Lib.hid (below_grown1 XS.out gU g8l.out)
    have NBU:=Lib.hid k8
    clear k8 gU R8 NB8 R7 NB7 XS
    refine hK _ _ ?_
    clear hK K
    intro HL1
    refine wpAnyR_lastL (by kernel_rfl) (by kernel_rfl) rfl (by kernel_rfl) (fun wV hr=>⟨bl_trans XU.out hr,?_⟩)
    intro K hK
    have RV:=Lib.hid (R9.out.below hr)
    have XV:=Lib.hid (bl_trans XU.out hr)
    have NBV:=Lib.hid (NBU.out.below hr)
    clear hr R9 XU NBU X7
    go_simp
    refine hK _ _ ?_
    clear hK K
    clear HI7 g8l
   case' oB =>
    have X6:=Lib.hid (bl_drewT hr)
    have X6b:=Lib.hid (bl_trans X6.out (bl_alloc (bl_refl w5) (.cells ([.slice none 0 0,.slice none 0 0,.slice none 0 0,.slice none 0 0,.slice none 0 0,.int .i64 0,.int .i64 0,.int .i64 0,.int .i64 0] : List Value).toArray 27)))
    have NB6:=Lib.hid (blk_new w5 27 [.slice none 0 0,.slice none 0 0,.slice none 0 0,.slice none 0 0,.slice none 0 0,.int .i64 0,.int .i64 0,.int .i64 0,.int .i64 0])
    have g8l : Hid (wr.heap.size ≤ w5.heap.size):=Lib.hid X6.out.size
    have g8m : Hid (w5.heap.size < (w5.alloc (.cells ([.slice none 0 0,.slice none 0 0,.slice none 0 0,.slice none 0 0,.slice none 0 0,.int .i64 0,.int .i64 0,.int .i64 0,.int .i64 0] : List Value).toArray 27)).heap.size):=Lib.hid (by rw [World.size_alloc];omega)
    clear hr
    go_simp
    refine hK _ _ ?_
    clear hK K
    intro HC6
    refine wpAnyR_oneL HC6 (i:=5) (by kernel_rfl) rfl (by kernel_rfl) (fun w6 hr=>⟨bl_trans X6b.out hr,?_⟩)
    intro K hK
    have KA6:=Lib.hid (KAP.out w6 (HD.out.below (bl_trans X6b.out hr)).rows.rd HZ.out)
    have NB6b:=Lib.hid (NB6.out.below hr)
    have X6c:=Lib.hid (bl_trans X6b.out hr)
    have g8n : Hid (w5.heap.size < w6.heap.size):=Lib.hid (Nat.lt_of_lt_of_le g8m.out hr.size)
    clear hr X6b NB6 g8m
    go_simp
    go_wp2_with (go_at_call 23;refine KA6.out.mono ?_;rintro e w7 ⟨M2,rfl,ho,hb⟩;have R7:=Lib.hid ho;have g8x:=Lib.hid X6c.out.size;have X7:=Lib.hid (bl_trans X6c.out hb);have NB7:=Lib.hid (NB6b.out.below hb);clear ho hb KA6 X6c NB6b X6)
    intro HC7
    generalize w5.heap.size = g8 at *
    refine wpAnyR_takeL (i:=6) (kw:=4) (v:=.tuple #[.agg #[.slice M2.a1 r.st.length M2.c1,.slice M2.a2 r.bt.length M2.c2,.slice M2.a3 r.pd.length M2.c3,.slice M2.a4 r.fo.length M2.c4,.slice M2.a5 r.ac.length M2.c5,.int .i64 r.tu,.int .i64 r.un,.int .i64 r.ra,.int .i64 r.li],.int .i64 kc]) (fun _=>bl_refl _) (fun p q=>bl_trans p q) rfl rfl (by kernel_rfl) (by kernel_rfl) (by kernel_rfl) (by kernel_rfl) (fun _ _ _ h=>h) HC7 (Or.inl ⟨by kernel_rfl,fun W' hI=>?_⟩) (fun HC7x=>?_)
    ·exact .inl (by go_simp)
    refine wpAnyR_takeL (i:=7) (kw:=3) (v:=.agg #[.slice M2.a1 r.st.length M2.c1,.slice M2.a2 r.bt.length M2.c2,.slice M2.a3 r.pd.length M2.c3,.slice M2.a4 r.fo.length M2.c4,.slice M2.a5 r.ac.length M2.c5,.int .i64 r.tu,.int .i64 r.un,.int .i64 r.ra,.int .i64 r.li]) (fun _=>bl_refl _) (fun p q=>bl_trans p q) rfl rfl (by kernel_rfl) (by kernel_rfl) (by kernel_rfl) (by kernel_rfl) (fun _ _ _ h=>h) HC7x (Or.inl ⟨by kernel_rfl,fun W' hI=>?_⟩) (fun HC7xx=>?_)
    ·exact .inl (by go_simp)
    refine wpAnyR_takeL (i:=8) (kw:=1) (v:=.int .i64 kc) (fun _=>bl_refl _) (fun p q=>bl_trans p q) rfl rfl (by kernel_rfl) (by kernel_rfl) (by kernel_rfl) (by kernel_rfl) (fun _ _ _ h=>h) HC7xx (Or.inl ⟨by kernel_rfl,fun W' hI=>?_⟩) (fun HC7xxx=>?_)
    ·exact .inl (by go_simp)
    refine wpAnyR_oneL HC7xxx (i:=10) (by kernel_rfl) rfl (by kernel_rfl) (fun wS hr=>⟨bl_trans X7.out hr,?_⟩)
    intro K hK
    have XS:=Lib.hid (bl_trans X7.out hr)
    have R8:=Lib.hid (R7.out.below hr)
    have NB8:=Lib.hid (NB7.out.below hr)
    clear hr
    try simp only [Act.put,List.setIfInBounds_toArray,List.set_cons_succ,List.set_cons_zero]
    refine wp_store_blk 27 9 (.tmp 8) (.tmp 33) rfl iB g8 rfl [.slice M2.a1 r.st.length M2.c1,.slice M2.a2 r.bt.length M2.c2,.slice M2.a3 r.pd.length M2.c3,.slice M2.a4 r.fo.length M2.c4,.slice M2.a5 r.ac.length M2.c5,.int .i64 r.tu,.int .i64 r.un,.int .i64 r.ra,.int .i64 r.li] rfl rfl (by simp [Value.oneCell']) _ NB8.out rfl ?_
    intro wU k8 gU
    have R9:=Lib.hid ((R8.out.grownB' gU g8n.out).less g8x.out)
    have XU:=Lib.hid (below_grown1 XS.out gU g8l.out)
    have NBU:=Lib.hid k8
    clear k8 gU R8 NB8 R7 NB7 XS
    refine hK _ _ ?_
    clear hK K
    intro HL1
    refine wpAnyR_lastL (by kernel_rfl) (by kernel_rfl) rfl (by kernel_rfl) (fun wV hr=>⟨bl_trans XU.out hr,?_⟩)
    intro K hK
    have RV:=Lib.hid (R9.out.below hr)
    have XV:=Lib.hid (bl_trans XU.out hr)
    have NBV:=Lib.hid (NBU.out.below hr)
    clear hr R9 XU NBU X7
    go_simp
    refine hK _ _ ?_
    clear hK K
    clear g8l g8n g8x
   all_goals
    have NBb:=NBV.out
    obtain ⟨s0,-⟩:=NBb.cell 0 _ rfl;obtain ⟨s1,-⟩:=NBb.cell 1 _ rfl;obtain ⟨s2,-⟩:=NBb.cell 2 _ rfl;obtain ⟨s3,-⟩:=NBb.cell 3 _ rfl;obtain ⟨s4,-⟩:=NBb.cell 4 _ rfl;obtain ⟨s5,-⟩:=NBb.cell 5 _ rfl;obtain ⟨s6,-⟩:=NBb.cell 6 _ rfl;obtain ⟨s7,-⟩:=NBb.cell 7 _ rfl;obtain ⟨s8,-⟩:=NBb.cell 8 _ rfl
    have D0b:=(HD.out.below XV.out).blk
    obtain ⟨u0,-⟩:=D0b.cell 0 _ rfl;obtain ⟨u1,-⟩:=D0b.cell 1 _ rfl;obtain ⟨u2,-⟩:=D0b.cell 2 _ rfl;obtain ⟨u3,-⟩:=D0b.cell 3 _ rfl;obtain ⟨u4,-⟩:=D0b.cell 4 _ rfl;obtain ⟨u5,-⟩:=D0b.cell 5 _ rfl;obtain ⟨u6,-⟩:=D0b.cell 6 _ rfl;obtain ⟨u7,-⟩:=D0b.cell 7 _ rfl;obtain ⟨u8,-⟩:=D0b.cell 8 _ rfl
    clear NBb D0b
    by_cases hc : kc = 0
    ·have hN:=Lib.hid (HN.out hc)
     have hR:=Lib.hid (HR.out hc)
     subst hc
     clear HS HN HR
     go_wp2_with (first
      | ((with_reducible refine at_st 27 (.tmp 2) (.tmp 40) rfl ?_);(refine wpList_store_blk 27 9 rfl (.tmp 2) (.tmp 40) rfl iB w.heap.size rfl [.slice M2.a1 r.st.length M2.c1,.slice M2.a2 r.bt.length M2.c2,.slice M2.a3 r.pd.length M2.c3,.slice M2.a4 r.fo.length M2.c4,.slice M2.a5 r.ac.length M2.c5,.int .i64 r.tu,.int .i64 r.un,.int .i64 r.ra,.int .i64 r.li] rfl rfl (by simp [Value.oneCell']) _ (HD.out.below XV.out).blk rfl ?_);intro w9 k9 g9))
     have D7 : Hid (Dn w (w.heap.size + 1 + 1) w.heap.size (w.heap.size + 1) M2 (accB b fl (k + 1)) w9):=by rw [← hR.out];exact Lib.hid (HD.out.put XV.out RV.out k9 g9 hw1.out (Nat.le_refl _) (by omega))
     go_roundw
     case rel=>exact ⟨k + 1,M2,by omega,by go_num,hN,D7⟩
     case measure=>simp [intOf];omega
    ·obtain ⟨rfl,rfl,rfl⟩:=HS.out hc
     have hc' : (rC != 0) = true:=by simpa using hc
     clear HS HN HR hc
     go_wp2_with (first
      | ((with_reducible refine at_st 27 (.tmp 4) (.tmp 37) rfl ?_);(refine wpList_store_blk 27 9 rfl (.tmp 4) (.tmp 37) rfl iB (w.heap.size + 1) rfl [.slice M.a1 rR.st.length M.c1,.slice M.a2 rR.bt.length M.c2,.slice M.a3 rR.pd.length M.c3,.slice M.a4 rR.fo.length M.c4,.slice M.a5 rR.ac.length M.c5,.int .i64 rR.tu,.int .i64 rR.un,.int .i64 rR.ra,.int .i64 rR.li] rfl rfl (by simp [Value.oneCell']) _ (HD.out.below XV.out).res rfl ?_);intro w9 k9 g9))
     obtain ⟨z0,_⟩:=k9.cell 0 _ rfl
     obtain ⟨z1,_⟩:=k9.cell 1 _ rfl
     obtain ⟨z2,_⟩:=k9.cell 2 _ rfl
     obtain ⟨z3,_⟩:=k9.cell 3 _ rfl
     obtain ⟨z4,_⟩:=k9.cell 4 _ rfl
     obtain ⟨z5,_⟩:=k9.cell 5 _ rfl
     obtain ⟨z6,_⟩:=k9.cell 6 _ rfl
     obtain ⟨z7,_⟩:=k9.cell 7 _ rfl
     obtain ⟨z8,_⟩:=k9.cell 8 _ rfl
     exact bodyPost_ret (v:=.tuple #[.agg #[.slice M.a1 rR.st.length M.c1,.slice M.a2 rR.bt.length M.c2,.slice M.a3 rR.pd.length M.c3,.slice M.a4 rR.fo.length M.c4,.slice M.a5 rR.ac.length M.c5,.int .i64 rR.tu,.int .i64 rR.un,.int .i64 rR.ra,.int .i64 rR.li],.int .i64 k,.int .i64 rC]) (by simp [results,Try.results44,go_sem,z0,z1,z2,z3,z4,z5,z6,z7,z8]) rfl ⟨M,rfl,(((HD.out.below XV.out).rows.grownB' g9 (by omega)).less (by omega)),(below_grown1 (HD.out.below XV.out).all g9 (by omega))⟩

  ·obtain rfl : k = n:=by omega
   obtain ⟨rfl,rfl,rfl⟩:=HALL.out HT.out
   obtain ⟨c,ec⟩ : ∃ c,c = accB b fl k:=⟨_,rfl⟩
   rw [← ec] at HD
   have EC:=Lib.hid ec
   clear ec
   have D0b:=HD.out.blk
   obtain ⟨u0,-⟩:=D0b.cell 0 _ rfl;obtain ⟨u1,-⟩:=D0b.cell 1 _ rfl;obtain ⟨u2,-⟩:=D0b.cell 2 _ rfl;obtain ⟨u3,-⟩:=D0b.cell 3 _ rfl;obtain ⟨u4,-⟩:=D0b.cell 4 _ rfl;obtain ⟨u5,-⟩:=D0b.cell 5 _ rfl;obtain ⟨u6,-⟩:=D0b.cell 6 _ rfl;obtain ⟨u7,-⟩:=D0b.cell 7 _ rfl;obtain ⟨u8,-⟩:=D0b.cell 8 _ rfl
   clear D0b
   go_wp2_with (first
    | ((with_reducible refine at_st 27 (.tmp 4) (.tmp 41) rfl ?_);(refine wpList_store_blk 27 9 rfl (.tmp 4) (.tmp 41) rfl iB (w.heap.size + 1) rfl [.slice M.a1 c.st.length M.c1,.slice M.a2 c.bt.length M.c2,.slice M.a3 c.pd.length M.c3,.slice M.a4 c.fo.length M.c4,.slice M.a5 c.ac.length M.c5,.int .i64 c.tu,.int .i64 c.un,.int .i64 c.ra,.int .i64 c.li] rfl rfl (by simp [Value.oneCell']) _ HD.out.res rfl ?_);intro w9 k9 g9))
   obtain ⟨z0,_⟩:=k9.cell 0 _ rfl
   obtain ⟨z1,_⟩:=k9.cell 1 _ rfl
   obtain ⟨z2,_⟩:=k9.cell 2 _ rfl
   obtain ⟨z3,_⟩:=k9.cell 3 _ rfl
   obtain ⟨z4,_⟩:=k9.cell 4 _ rfl
   obtain ⟨z5,_⟩:=k9.cell 5 _ rfl
   obtain ⟨z6,_⟩:=k9.cell 6 _ rfl
   obtain ⟨z7,_⟩:=k9.cell 7 _ rfl
   obtain ⟨z8,_⟩:=k9.cell 8 _ rfl
   have R9 : Row5 w9 w.heap.size M c:=(HD.out.rows.grownB' g9 (by omega)).less (by omega)
   have B9 : Below w.heap.size w w9:=below_grown1 HD.out.all g9 (by omega)
   exact bodyPost_ret (v:=.tuple #[.agg #[.slice M.a1 c.st.length M.c1,.slice M.a2 c.bt.length M.c2,.slice M.a3 c.pd.length M.c3,.slice M.a4 c.fo.length M.c4,.slice M.a5 c.ac.length M.c5,.int .i64 c.tu,.int .i64 c.un,.int .i64 c.ra,.int .i64 c.li],.int .i64 k,.int .i64 0]) (by simp [results,Try.results44,go_sem,z0,z1,z2,z3,z4,z5,z6,z7,z8]) rfl (by show NewBtNC (accB b fl k) _ _ _ _ _;rw [← EC.out];exact ⟨M,rfl,R9,B9⟩)

end Go.Proofs.Ytnllndcajdofjaa
