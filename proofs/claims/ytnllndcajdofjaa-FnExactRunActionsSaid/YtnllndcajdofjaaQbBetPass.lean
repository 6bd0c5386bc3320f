/-
 The program: the turn passes to the next seat that has to act.
-/
import Derived.Test.YtnllndcajdofjaaQbBetDoG
import Derived.Test.YtnllndcajdofjaaQbSeatG
import Derived.Test.YtnllndcajdofjaaQbBetCG
namespace Go.Proofs.Ytnllndcajdofjaa
open Go.RowKit
set_option linter.unusedVariables false
attribute [local go_sem] Oper.semAt_some

/-- The first seat of s on that has to act, or the seat whose turn it is. -/
def hopS (b : Bt) (s : Int) : Nat:=(List.range b.st.length).findIdx (fun k=>mustB b (seatAt b.st.length s k).toNat)
def nxtS (b : Bt) (s : Int) : Int:=if hopS b s < b.st.length then seatAt b.st.length s (hopS b s) else b.tu
theorem hopS_before (b : Bt) (s : Int) (k : Nat) (h : k < hopS b s) (hk : k < b.st.length) : mustB b (seatAt b.st.length s k).toNat = false:=by
 have:=List.not_of_lt_findIdx h
 simpa using this
theorem hopS_at (b : Bt) (s : Int) (h : hopS b s < b.st.length) : mustB b (seatAt b.st.length s (hopS b s)).toNat = true:=by
 have:=List.findIdx_getElem (p:=fun k=>mustB b (seatAt b.st.length s k).toNat) (xs:=List.range b.st.length) (w:=by rw [List.length_range];exact h)
 simpa [hopS] using this
theorem below_set2 {n : Nat} {w W : World} (h : Below n w W) {g : Nat} {t : TypeId} {vs : List Value} (hb : Blk w g t vs) (hg : g < n) (k : Nat) (v : Value) : Below n (w.setCell ⟨g,k,none⟩ v) (W.setCell ⟨g,k,none⟩ v):=by
 have hB : Blk W g t vs:=(h.block g hg).trans hb
 obtain ⟨s1,s2⟩:=blk_set hb k v
 obtain ⟨t1,t2⟩:=blk_set hB k v
 refine ⟨?_,?_,?_,?_,fun j hj=>?_⟩
 ·exact (t2.os.trans h.os).trans s2.os.symm
 ·exact (t2.tape.trans h.tape).trans s2.tape.symm
 ·exact (t2.output.trans h.output).trans s2.output.symm
 ·have:=h.size
  simpa [World.setCell] using this
 ·by_cases e : j = g
  ·subst e;exact t1.trans s1.symm
  ·rw [heap_setCell_other _ _ _ _ e,heap_setCell_other _ _ _ _ e]
   exact h.block j hj
theorem kWalk_ptr : kWalk 94 = false:=by kernel_rfl
theorem kWalk_bet : kWalk 27 = false:=by kernel_rfl
/-- What the rounds keep: the world ahead,with the turn set once a seat is found. -/
def PI (w0 wS : World) (g M i : Nat) (W : World) : Prop :=
 Blk W w0.heap.size 94 [.pointer (some ⟨g,0,none⟩)] ∧ Below w0.heap.size (if i ≤ M then w0 else wS) W
theorem pi_itw {w0 wS : World} {g M i n0 : Nat} {X Y : World} (h : PI w0 wS g M i X) (hb : ItW kWalk n0 X Y) (hn : w0.heap.size ≤ n0) : PI w0 wS g M i Y :=
 ⟨itw_blk hb h.1 kWalk_ptr,h.2.trans (hb.1.mono hn)⟩
set_option maxRecDepth 100000 in
set_option maxHeartbeats 1000000 in
theorem passTurn_any (g : Nat) (L : At5) (b : Bt) (s : Int) (w : World) (h : NB w g L b) (k : Sd b) (hs0 : 0 ≤ s) (hs1 : s < b.st.length) :
  Calls Try.prog 87 #[.pointer (some ⟨g,0,none⟩),.int .i64 s] w (Did g L { b with tu:=nxtS b s } w):=by
 have i1 : (Try.prog.info? 2).map (·.size) = some 1:=by kernel_rfl
 have n2:=k.n2
 have n6:=k.n6
 obtain ⟨w0,rfl⟩ : ∃ w0 : World,w0 = w:=⟨w,rfl⟩
 have hgl0:=h.blk.lt
 have KS:=Lib.hid (fun (W : World) (hb : Below w0.heap.size w0 W)=>seatCountB_any g L b W (h.at_.below hb))
 have KH:=Lib.hid (fun (j : Nat) (hj : j < b.st.length) (W : World) (hb : Below w0.heap.size w0 W)=>hasToAct_any g L b j W (h.at_.below hb) k hj)
 have HH:=Lib.hid h
 have HSX:=Lib.hid (And.intro hs0 hs1)
 have BB:=Lib.hid (hopS_before b s)
 have n0:=blk_new w0 94 [.pointer (some ⟨g,0,none⟩)]
 have b0:=bl_alloc (bl_refl w0) (.cells ([.pointer (some ⟨g,0,none⟩)] : List Value).toArray 94)
 have N0:=Lib.hid n0
 have B0:=Lib.hid b0
 clear h k n0 b0
 refine (callsIn_wide (n:=10)).1 ?_
 refine callsIn_of_wp_marks Try.func87 rfl trivial ?_ rfl
 simp only [Try.ntmps87,List.size_toArray,List.length_cons,List.length_nil,Nat.reduceAdd,Nat.reduceSub,Array.replicate_succ,Array.replicate_zero,List.push_toArray,List.append_toArray,List.nil_append,List.cons_append]
 have cb:=(N0.out.cell 0 _ rfl).1
 gi_wp2_with (refine ⟨trivial,?_⟩;gi_at_call 89;refine (callsIn_wide.2 (KS.out _ B0.out)).mono ?_;rintro e w7 ⟨rfl,rfl⟩)
 obtain ⟨W2,e2⟩ : ∃ W2,W2 = ((w0.alloc (.cells ([.pointer (some ⟨g,0,none⟩)] : List Value).toArray 94)).alloc (.cells ([.int .i64 s,.int .i64 b.st.length] : List Value).toArray 138)):=⟨_,rfl⟩
 have B2 : Hid (Below w0.heap.size w0 W2):=by rw [e2];exact Lib.hid (bl_alloc B0.out _)
 have N2 : Hid (Blk W2 w0.heap.size 94 [.pointer (some ⟨g,0,none⟩)]):=by rw [e2];exact Lib.hid (N0.out.below (bl_alloc (bl_refl _) _))
 have hz2 : w0.heap.size ≤ W2.heap.size:=B2.out.size
 simp only [List.toArray] at e2
 rw [← e2]
 clear e2 N0 B0 cb KS
 by_cases hM : hopS b s < b.st.length
 ·have sb:=seatAt_bd b.st.length s (hopS b s) (by omega)
  have EV : nxtS b s = seatAt b.st.length s (hopS b s):=if_pos hM
  have ma:=hopS_at b s hM
  obtain ⟨v,hv⟩:=Int.eq_ofNat_of_zero_le sb.1
  have hvl : v < b.st.length:=by omega
  rw [hv] at EV ma
  rw [Int.toNat_natCast] at ma
  have SB:=blk_set HH.out.blk 5 (.int .i64 (v : Int))
  have HS:=Lib.hid (HH.out.setTu (v : Int) SB.1 SB.2)
  obtain ⟨wS,eS⟩ : ∃ wS,wS = w0.setCell ⟨g,5,none⟩ (.int .i64 (v : Int)):=⟨_,rfl⟩
  rw [← eS] at HS
  have hzS : wS.heap.size = w0.heap.size:=by rw [eS];simp [World.setCell]
  have ES:=Lib.hid eS
  have EVH:=Lib.hid EV
  have HV:=Lib.hid hv
  clear SB eS EV hv sb
  generalize hopS b s = M at *
  have KIT:=seatsX_any 9 b.st.length M s (PI w0 wS g M) W2 (by omega) hM n6 HSX.out.1 HSX.out.2
  have I0 : Hid (PI w0 wS g M 0 W2):=Lib.hid ⟨N2.out,by rw [if_pos (Nat.zero_le _)];exact B2.out⟩
  refine wpIn_rangeXF (e0:=.ret) (j:=.ret) rfl (by omega) (gf:=151) (fa:=#[wkV s b.st.length]) (lb:=#[]) rfl trivial (enters_of Try.func151 (by kernel_rfl) rfl)
   (.inl ⟨rfl,rfl⟩) KIT (fun i W' ar h=>by rw [show ar = _ from h];rfl) (fun i A' B' ar h _=>h)
   (fun i A' B' h hb'=>pi_itw h hb' hz2) I0.out
   (fun ar W'=>{ tmps:=#[.pointer (some ⟨g,0,none⟩),.int .i64 s,.pointer (some ⟨w0.heap.size,0,none⟩),undef,.pointer (some ⟨w0.heap.size + 1,0,none⟩),ar.getD 0 undef,.int .i64 s,.pointer (some ⟨g,0,none⟩),.int .i64 b.st.length,.agg #[.int .i64 s,.int .i64 b.st.length],.agg #[.int .i64 s,.int .i64 b.st.length],.func (.func 151) #[wkV s b.st.length] #[],ar.getD 0 undef,undef,undef,undef,undef,undef,undef,undef],defers:=[] })
   (fun ar W' W''=>W' = W'') (fun i ar W' W'' hi1 hw hI hY hRA=>by subst hRA;exact ⟨Con.refl _ _,hI,hY⟩) ?assign ?body ?last ?done
  case assign =>
   intro lr i ar W' Kc hw hI h hKc
   obtain rfl : ar = _:=h
   have HK:=Lib.hid hKc
   clear hKc hI hw I0 KIT
   gi_wp2
   exact HK.out _ rfl
  case body =>
   intro lr i ar W0 Wa W hRA hi0 hI h hgl hrl hW0 hca hsz
   obtain rfl : ar = _:=h
   obtain ⟨h1,h2⟩:=hI
   rw [if_pos (by omega)] at h2
   have hz:=BB.out i hi0 (by omega)
   have sb:=seatAt_bd b.st.length s i (by omega)
   generalize seatAt b.st.length s i = se at *
   obtain ⟨q,rfl⟩:=Int.eq_ofNat_of_zero_le sb.1
   rw [Int.toNat_natCast] at hz
   have KX:=Lib.hid (KH.out q (by omega) W h2)
   rw [hz] at KX
   have cs:=(h1.cell 0 _ rfl).1
   have H1:=Lib.hid h1
   have H2:=Lib.hid h2
   clear h1 h2 hca hsz hrl I0 KIT hz hRA KH
   simp only [Array.getD_eq_getD_getElem?]
   gi_wp2_with (refine ⟨trivial,?_⟩;gi_at_call 67;refine (callsIn_wide.2 KX.out).mono ?_;rintro e w7 ⟨rfl,m7,e7⟩;have b7 : Hid (Below W.heap.size W w7):=Lib.hid (by rw [e7];exact bl_drewN (bl_refl _) _);clear e7)
   exact ⟨⟨H1.out.below b7.out,by rw [if_pos (by omega)];exact H2.out.trans (b7.out.mono H2.out.size)⟩,con_below b7.out⟩
  case last =>
   intro lr ar W0 Wa W hRA hI h hgl hrl hW0 hca hsz
   obtain rfl : ar = _:=h
   obtain ⟨h1,h2⟩:=hI
   rw [if_pos (Nat.le_refl _)] at h2
   rw [HV.out]
   have KX:=Lib.hid (KH.out v hvl W h2)
   rw [ma] at KX
   have cs:=(h1.cell 0 _ rfl).1
   have H1:=Lib.hid h1
   have H2:=Lib.hid h2
   clear h1 h2 hca hsz hrl I0 KIT ma hRA KH
   simp only [Array.getD_eq_getD_getElem?]
   gi_wp2_with (refine ⟨trivial,?_⟩;gi_at_call 67;refine (callsIn_wide.2 KX.out).mono ?_;rintro e w7 ⟨rfl,m7,e7⟩;have b7 : Hid (Below W.heap.size W w7):=Lib.hid (by rw [e7];exact bl_drewN (bl_refl _) _);clear e7;have c7:=((H1.out.below b7.out).cell 0 _ rfl).1;have c8:=((HH.out.blk.below (H2.out.trans (b7.out.mono H2.out.size))).cell 5 _ rfl).1;have f8:=((HH.out.blk.below (H2.out.trans (b7.out.mono H2.out.size))).cell 5 _ rfl).2)
   have H7:=H2.out.trans (b7.out.mono H2.out.size)
   have HB7:=HH.out.blk.below H7
   have S:=blk_set HB7 5 (.int .i64 (v : Int))
   exact ⟨rfl,⟨(H1.out.below b7.out).grown S.2 (fun e=>by have:=Option.some.inj e;omega),by rw [if_neg (by omega),ES.out];exact below_set2 H7 HH.out.blk hgl0 5 _⟩,((con_below b7.out).trans (con_grown (K:=kWalk) S.2 HB7 kWalk_bet)).x _⟩
  case done =>
   rintro D W hD ⟨h1,h2⟩ hK
   rw [if_neg (by omega)] at h2
   have R6:=Lib.hid h2
   have HKD:=Lib.hid hK
   clear h1 h2 hK I0 KIT
   gi_wp2
   have hk5:=HKD.out
   have hkl:=(Array.getElem?_eq_some_iff.1 hk5).1
   have R7:=R6.out.trans (putObj_below W D (.deferred none) (by omega) hkl)
   have R8 : Below wS.heap.size wS (W.putObj D (.deferred none)):=R7.mono (by omega)
   refine ⟨by simp,.inl ⟨_,_,rfl,run_takeDeferred hk5,?_⟩⟩
   exact ⟨.tuple #[],by simp [results,Try.f87,go_sem],rfl,by rw [EVH.out];exact ⟨HS.out.1.below R8,HS.out.2.trans (Frm.of_below R8)⟩⟩
 ·have EV : nxtS b s = b.tu:=if_neg hM
  have EVH:=Lib.hid EV
  have BB2:=Lib.hid (fun (j : Nat) (hj : j < b.st.length)=>BB.out j (by omega) hj)
  clear EV BB
  have KIT:=seatsC_any 9 b.st.length s (PI w0 w0 g 0) W2 (by omega) (by omega) n6 HSX.out.1 HSX.out.2
  have I0 : Hid (PI w0 w0 g 0 0 W2):=Lib.hid ⟨N2.out,by rw [ite_self];exact B2.out⟩
  refine wpIn_rangeCF rfl (by omega) (gf:=151) (fa:=#[wkV s b.st.length]) (lb:=#[]) rfl trivial (enters_of Try.func151 (by kernel_rfl) rfl)
   KIT (fun i W' ar h=>by rw [show ar = _ from h];rfl) (fun i A' B' ar h _=>h)
   (fun i A' B' h hb'=>pi_itw h hb' hz2) I0.out
   (fun ar W'=>{ tmps:=#[.pointer (some ⟨g,0,none⟩),.int .i64 s,.pointer (some ⟨w0.heap.size,0,none⟩),undef,.pointer (some ⟨w0.heap.size + 1,0,none⟩),ar.getD 0 undef,.int .i64 s,.pointer (some ⟨g,0,none⟩),.int .i64 b.st.length,.agg #[.int .i64 s,.int .i64 b.st.length],.agg #[.int .i64 s,.int .i64 b.st.length],.func (.func 151) #[wkV s b.st.length] #[],ar.getD 0 undef,undef,undef,undef,undef,undef,undef,undef],defers:=[] })
   (fun ar W'=>W') (fun ar W'=>bl_refl W') ?assign ?body ?done
  case assign =>
   intro lr i ar W' Kc h hKc
   obtain rfl : ar = _:=h
   clear I0 KIT
   gi_wp2
   exact hKc
  case body =>
   intro lr i ar W0 W hi0 hI h hgl hrl hW0 hca hsz
   obtain rfl : ar = _:=h
   obtain ⟨h1,h2⟩:=hI
   rw [ite_self] at h2
   have hz:=BB2.out i hi0
   have sb:=seatAt_bd b.st.length s i (by omega)
   generalize seatAt b.st.length s i = se at *
   obtain ⟨q,rfl⟩:=Int.eq_ofNat_of_zero_le sb.1
   rw [Int.toNat_natCast] at hz
   have KX:=Lib.hid (KH.out q (by omega) W h2)
   rw [hz] at KX
   have cs:=(h1.cell 0 _ rfl).1
   have H1:=Lib.hid h1
   have H2:=Lib.hid h2
   clear h1 h2 hca hsz hrl I0 KIT hz KH
   simp only [Array.getD_eq_getD_getElem?]
   gi_wp2_with (refine ⟨trivial,?_⟩;gi_at_call 67;refine (callsIn_wide.2 KX.out).mono ?_;rintro e w7 ⟨rfl,m7,e7⟩;have b7 : Hid (Below W.heap.size W w7):=Lib.hid (by rw [e7];exact bl_drewN (bl_refl _) _);clear e7)
   exact ⟨⟨H1.out.below b7.out,by rw [ite_self];exact H2.out.trans (b7.out.mono H2.out.size)⟩,con_below b7.out⟩
  case done =>
   rintro D W hD ⟨h1,h2⟩ hK
   rw [ite_self] at h2
   have R6:=Lib.hid h2
   have HKD:=Lib.hid hK
   clear h1 h2 hK I0 KIT
   gi_wp2
   have hk5:=HKD.out
   have hkl:=(Array.getElem?_eq_some_iff.1 hk5).1
   have R7:=R6.out.trans (putObj_below W D (.deferred none) (by omega) hkl)
   refine ⟨by simp,.inl ⟨_,_,rfl,run_takeDeferred hk5,?_⟩⟩
   exact ⟨.tuple #[],by simp [results,Try.f87,go_sem],rfl,by rw [EVH.out];exact ⟨HH.out.below R7,Frm.of_below R7⟩⟩
end Go.Proofs.Ytnllndcajdofjaa
