/-
 The draw of a round behind some actions.
-/
import Derived.Test.YtnllndcajdofjaaQaDrawActG
import Derived.Test.YtnllndcajdofjaaQaSpecGo
namespace Go.Proofs.Ytnllndcajdofjaa
open Go.RowKit
set_option linter.unusedVariables false

/-- A played round that has been drawn. -/
def DrawnPl (f : Int) (w : World) (s : Nat) (a : Option Addr) (L c : Nat) (zs : Nat → Int) (e : Ending) (w' : World) : Prop :=
 ∃ (M : At5) (b : Bt),e = .returned (.agg #[.slice M.a1 b.st.length M.c1,.slice M.a2 b.bt.length M.c2,.slice M.a3 b.pd.length M.c3,.slice M.a4 b.fo.length M.c4,.slice M.a5 b.ac.length M.c5,.int .i64 b.tu,.int .i64 b.un,.int .i64 b.ra,.int .i64 b.li]) ∧ Play f b ∧ Row5 w' w.heap.size M b ∧ Src w' s a L c zs ∧ Only s w w'
theorem NC.put {w X w' : World} {lo g : Nat} {L L' : At5} {b b' : Bt} (h : NC w lo g L b) (hX : Below w.heap.size w X) (hr : Row5 X w.heap.size L' b') (hk : Blk w' g 27 (btL L' b')) (hg : X.grownBy w' (some g)) (hl : lo ≤ w.heap.size) : NC w' lo g L' b':=by
 have hlt:=h.blk.lt
 have ne : ∀ {A : Option Addr},(∀ a,A = some a → w.heap.size ≤ a.block ∧ a.block < X.heap.size) → ∀ a,A = some a → a.block ≠ g:=fun q a e=>by have:=(q a e).1;omega
 exact ⟨hk,(hr.grownB' hg hlt).less hl,h.lg,ne hr.r1.1,ne hr.r2.1,ne hr.r3.1,ne hr.r4.1,ne hr.r5.1⟩
theorem NC.only {w w' : World} {lo g s : Nat} {L : At5} {b : Bt} (h : NC w lo g L b) (ho : Only s w w') (hs : s < lo) : NC w' lo g L b :=
 ⟨h.blk.grown ho (fun e=>by have:=Option.some.inj e;have:=h.lg;omega),h.rows.grownB' ho hs,h.lg,h.ne1,h.ne2,h.ne3,h.ne4,h.ne5⟩
/-- What stands while a round is drawn: its box,the result's box,the source. -/
structure Pl (w0 : World) (s : Nat) (a : Option Addr) (L c : Nat) (zs : Nat → Int) (lo gz gg : Nat) (M : At5) (b : Bt) (W : World) : Prop where
 nc : NC W lo gg M b
 res : Blk W gz 27 [.slice none 0 0,.slice none 0 0,.slice none 0 0,.slice none 0 0,.slice none 0 0,.int .i64 0,.int .i64 0,.int .i64 0,.int .i64 0]
 src : Src W s a L c zs
 only : Only s w0 W
section
variable {w0 W W' X : World} {s lo gz gg : Nat} {a : Option Addr} {L c : Nat} {zs : Nat → Int} {M M' : At5} {b b' : Bt}
theorem Pl.below (h : Pl w0 s a L c zs lo gz gg M b W) (hb : Below W.heap.size W W') : Pl w0 s a L c zs lo gz gg M b W':=⟨h.nc.below hb,h.res.below hb,h.src.below hb,only_trans h.only (only_below hb)⟩
theorem Pl.drew (h : Pl w0 s a L c zs lo gz gg M b W) (hs : Src W' s a L c zs) (ho : Only s W W') (h1 : s < lo) (h2 : s ≠ gz) : Pl w0 s a L c zs lo gz gg M b W':=⟨h.nc.only ho h1,h.res.grown ho (fun e=>h2 (Option.some.inj e).symm),hs,only_trans h.only ho⟩
/-- A new round is stored into the box. -/
theorem Pl.put (h : Pl w0 s a L c zs lo gz gg M b W) (hX : Below W.heap.size W X) (hr : Row5 X W.heap.size M' b') (hk : Blk W' gg 27 (btL M' b')) (hg : X.grownBy W' (some gg)) (hl : w0.heap.size ≤ lo) (hl2 : lo ≤ W.heap.size) (hz : gz < lo) (hs : s < w0.heap.size) (hB : CodeB w0.heap.size a L) : Pl w0 s a L c zs lo gz gg M' b' W':=by
 have hg1:=h.nc.lg
 exact ⟨h.nc.put hX hr hk hg hl2,(h.res.below hX).grown hg (fun e=>by have:=Option.some.inj e;omega),src_boxA (h.src.below hX) hs hB hg (by omega),only_boxA (only_trans h.only (only_below hX)) hg (by omega)⟩
end
set_option maxRecDepth 100000 in
set_option maxHeartbeats 4000000 in
theorem l10Play_any (s : Nat) (a : Option Addr) (L c : Nat) (zs : Nat → Int) (A : Option Addr) (k : Nat) (xs : List Int) (b0 p g t l : Int) (w : World) (h : Src w s a L c zs) (hr : Rd w A xs) (hv : tabB xs b0 p g t l = true) :
  Calls Try.prog 97 #[.pointer (some ⟨s,0,none⟩),tV A xs.length k b0 p g t l] w (DrawnPl (firstI xs.length b0 0) w s a L c zs):=by
 have hmx : Try.prog.follows .mixedOrders = true:=by kernel_rfl
 have iB : (Try.prog.info? 27).map (·.size) = some 9:=by kernel_rfl
 have HS:=src_lt h
 have HB:=Lib.hid (codeB_of h)
 have bb1:=bl_alloc (bl_refl w) (.cells ([.slice A xs.length k,.int .i64 b0,.int .i64 p,.int .i64 g,.int .i64 t,.int .i64 l] : List Value).toArray 49)
 have bb2:=bl_alloc (bl_refl (w.alloc (.cells ([.slice A xs.length k,.int .i64 b0,.int .i64 p,.int .i64 g,.int .i64 t,.int .i64 l] : List Value).toArray 49))) (.cells ([.slice none 0 0,.slice none 0 0,.slice none 0 0,.slice none 0 0,.slice none 0 0,.int .i64 0,.int .i64 0,.int .i64 0,.int .i64 0] : List Value).toArray 27)
 have nt:=(blk_new w 49 [.slice A xs.length k,.int .i64 b0,.int .i64 p,.int .i64 g,.int .i64 t,.int .i64 l]).below bb2
 have nz:=blk_new (w.alloc (.cells ([.slice A xs.length k,.int .i64 b0,.int .i64 p,.int .i64 g,.int .i64 t,.int .i64 l] : List Value).toArray 49)) 27 [.slice none 0 0,.slice none 0 0,.slice none 0 0,.slice none 0 0,.slice none 0 0,.int .i64 0,.int .i64 0,.int .i64 0,.int .i64 0]
 rw [World.size_alloc] at nz
 obtain ⟨W1,eW⟩ : ∃ W1,W1 = (w.alloc (.cells ([.slice A xs.length k,.int .i64 b0,.int .i64 p,.int .i64 g,.int .i64 t,.int .i64 l] : List Value).toArray 49)).alloc (.cells ([.slice none 0 0,.slice none 0 0,.slice none 0 0,.slice none 0 0,.slice none 0 0,.int .i64 0,.int .i64 0,.int .i64 0,.int .i64 0] : List Value).toArray 27):=⟨_,rfl⟩
 have z1 : W1.heap.size = w.heap.size + 1 + 1:=by rw [eW,World.size_alloc,World.size_alloc]
 have B0:=bl_trans bb1 bb2
 rw [← eW] at nt nz B0
 have NZ:=Lib.hid nz
 have B:=Lib.hid B0
 have S1:=Lib.hid (h.below B0)
 have KG:=Lib.hid (l10Start_any A k xs b0 p g t l W1 (hr.below B0) hv)
 have PG:=Lib.hid (play_go hv)
 obtain ⟨t0,-⟩:=nt.cell 0 _ rfl
 obtain ⟨t1,-⟩:=nt.cell 1 _ rfl
 obtain ⟨t2,-⟩:=nt.cell 2 _ rfl
 obtain ⟨t3,-⟩:=nt.cell 3 _ rfl
 obtain ⟨t4,-⟩:=nt.cell 4 _ rfl
 obtain ⟨t5,-⟩:=nt.cell 5 _ rfl
 clear h hr hv bb1 bb2 nt nz B0
 generalize goB xs b0 p g t l = d at *
 generalize firstI xs.length b0 0 = f at *
 unfold tV NewBx at *
 go_enter Try.func97,Try.ntmps97
 go_wp2_with fail
 simp only [List.toArray] at eW
 rw [← eW]
 clear eW
 have SP : ∀ (W : World) (q : Int),Src W s a L c zs → Calls Try.prog 72 #[.pointer (some ⟨s,0,none⟩),.int .i64 8] W (Drew 0 (8 - 1) W s a L c zs):=fun W q h=>next_any s 8 a L c zs W (by omega) (by omega) h
 have SPH:=Lib.hid SP
 clear SP
 go_wp2_with (first
  | (go_at_call 114;refine KG.out.mono ?_;rintro e w2 ⟨M,rfl,hR,hb⟩;have hx:=bl_trans hb (bl_alloc (bl_refl w2) (.cells (btL M d).toArray 27));have PL3 : Hid (Pl w s a L c zs W1.heap.size (w.heap.size + 1) w2.heap.size M d (w2.alloc (.cells (btL M d).toArray 27))):=Lib.hid ⟨NC.new hR hb.size,NZ.out.below hx,S1.out.below hx,only_below (bl_trans B.out hx)⟩;clear hb hx hR)
  | (go_at_call 72;refine (SPH.out _ 0 PL3.out.src).mono ?_;rintro e w4 ⟨n,rfl,n0,n1,hs,ho⟩;have PL4:=Lib.hid (PL3.out.drew hs ho (by omega) (by omega));clear hs ho PL3))
 obtain ⟨q,rfl⟩:=Int.eq_ofNat_of_zero_le n0
 generalize w2.heap.size = gg at *
 go_loopw [6] (fun cnt wr=>∃ (q : Nat) (M : At5) (b : Bt),q ≤ 7 ∧ cnt = .int .i64 q ∧ Hid (Play f b) ∧ Hid (Pl w s a L c zs W1.heap.size (w.heap.size + 1) gg M b wr)) (fun cnt _=>(intOf cnt).toNat)
 case atStart=>exact ⟨q,M,d,by omega,rfl,PG,PL4⟩
 case round =>
  obtain ⟨q,M,b,hq,rfl,HP,PL⟩:=hrel
  clear PL4 PG n0 n1 KG S1 NZ t0 t1 t2 t3 t4 t5
  have PLb:=PL.out.nc.blk
  obtain ⟨q0,-⟩:=PLb.cell 0 _ rfl
  obtain ⟨q1,-⟩:=PLb.cell 1 _ rfl
  obtain ⟨q2,-⟩:=PLb.cell 2 _ rfl
  obtain ⟨q3,-⟩:=PLb.cell 3 _ rfl
  obtain ⟨q4,-⟩:=PLb.cell 4 _ rfl
  obtain ⟨q5,-⟩:=PLb.cell 5 _ rfl
  obtain ⟨q6,-⟩:=PLb.cell 6 _ rfl
  obtain ⟨q7,-⟩:=PLb.cell 7 _ rfl
  obtain ⟨q8,-⟩:=PLb.cell 8 _ rfl
  clear PLb
  have KH:=Lib.hid (l10HasT_any M b wr PL.out.nc.rows.rd HP.out.ok)
  unfold bV at KH
  by_cases h0 : 0 < q
  ·have gt : (decide ((q : Int) > 0)) = true:=decide_eq_true (by omega)
   rcases ho : openB b with _ | _
   ·rw [ho] at KH
    clear ho
    go_wp2_with (first
     | (go_at_call 107;refine KH.out.mono ?_;rintro e w5 ⟨rfl,hb⟩;have PL5:=Lib.hid (PL.out.below hb);have PLb:=PL5.out.nc.blk;obtain ⟨v0,-⟩:=PLb.cell 0 _ rfl;obtain ⟨v1,-⟩:=PLb.cell 1 _ rfl;obtain ⟨v2,-⟩:=PLb.cell 2 _ rfl;obtain ⟨v3,-⟩:=PLb.cell 3 _ rfl;obtain ⟨v4,-⟩:=PLb.cell 4 _ rfl;obtain ⟨v5,-⟩:=PLb.cell 5 _ rfl;obtain ⟨v6,-⟩:=PLb.cell 6 _ rfl;obtain ⟨v7,-⟩:=PLb.cell 7 _ rfl;obtain ⟨v8,-⟩:=PLb.cell 8 _ rfl;clear PLb hb KH PL)
     | ((with_reducible refine at_st 27 (.tmp 4) (.tmp 26) rfl ?_);(refine wpList_store_blk 27 9 rfl (.tmp 4) (.tmp 26) rfl iB (w.heap.size + 1) rfl [.slice M.a1 b.st.length M.c1,.slice M.a2 b.bt.length M.c2,.slice M.a3 b.pd.length M.c3,.slice M.a4 b.fo.length M.c4,.slice M.a5 b.ac.length M.c5,.int .i64 b.tu,.int .i64 b.un,.int .i64 b.ra,.int .i64 b.li] rfl rfl (by simp [Value.oneCell']) _ PL5.out.res rfl ?_);intro w9 k9 g9))
    obtain ⟨z0,_⟩:=k9.cell 0 _ rfl
    obtain ⟨z1x,_⟩:=k9.cell 1 _ rfl
    obtain ⟨z2,_⟩:=k9.cell 2 _ rfl
    obtain ⟨z3,_⟩:=k9.cell 3 _ rfl
    obtain ⟨z4,_⟩:=k9.cell 4 _ rfl
    obtain ⟨z5,_⟩:=k9.cell 5 _ rfl
    obtain ⟨z6,_⟩:=k9.cell 6 _ rfl
    obtain ⟨z7,_⟩:=k9.cell 7 _ rfl
    obtain ⟨z8,_⟩:=k9.cell 8 _ rfl
    exact bodyPost_ret (v:=.agg #[.slice M.a1 b.st.length M.c1,.slice M.a2 b.bt.length M.c2,.slice M.a3 b.pd.length M.c3,.slice M.a4 b.fo.length M.c4,.slice M.a5 b.ac.length M.c5,.int .i64 b.tu,.int .i64 b.un,.int .i64 b.ra,.int .i64 b.li]) (by simp [results,Try.results97,go_sem,z0,z1x,z2,z3,z4,z5,z6,z7,z8]) rfl ⟨M,b,rfl,HP.out,(PL5.out.nc.rows.grownB' g9 (by omega)).less (by omega),src_boxA PL5.out.src HS HB.out g9 (by omega),only_boxA PL5.out.only g9 (by omega)⟩
   ·rw [ho] at KH
    have KA:=Lib.hid (fun (W : World) (h : Src W s a L c zs) (hW : Rd5 W M b)=>l10DrawAction_any s a L c zs M b W h hW HP.out.ok ho)
    have KP:=Lib.hid (fun (kd x : Int) (hl : legB b kd x = true) (W : World) (hW : Rd5 W M b)=>l10Apply_any M b kd x W hW HP.out.ok hl)
    have KS:=Lib.hid (fun (kd x : Int) (hl : legB b kd x = true)=>play_step HP.out ho hl)
    clear ho
    unfold bV at KA KP
    go_wp2_with (go_at_call 107;refine KH.out.mono ?_;rintro e w5 ⟨rfl,hb⟩;have PL5:=Lib.hid (PL.out.below hb);clear hb KH PL)
    refine wp_region_R (R:=fun a b=>Below a.heap.size a b) (I:=fun W'=>Only s w5 W') (last:=5) (k:=5) (fun _=>bl_refl _) hmx rfl (fun HC0=>?_)
    refine wpAnyR_takeL (i:=0) (kw:=2) (v:=.agg #[.slice M.a1 b.st.length M.c1,.slice M.a2 b.bt.length M.c2,.slice M.a3 b.pd.length M.c3,.slice M.a4 b.fo.length M.c4,.slice M.a5 b.ac.length M.c5,.int .i64 b.tu,.int .i64 b.un,.int .i64 b.ra,.int .i64 b.li]) (fun _=>bl_refl _) (fun p q=>bl_trans p q) rfl rfl (by kernel_rfl) (by kernel_rfl) (by kernel_rfl) (by kernel_rfl) (fun _ _ _ h=>h) HC0 (Or.inl ⟨by kernel_rfl,fun W' hI=>?_⟩) (fun HC1=>?_)
    ·have hv:=(PL5.out.nc.only hI (by omega)).blk
     obtain ⟨z0,_⟩:=hv.cell 0 _ rfl
     obtain ⟨z1,_⟩:=hv.cell 1 _ rfl
     obtain ⟨z2,_⟩:=hv.cell 2 _ rfl
     obtain ⟨z3,_⟩:=hv.cell 3 _ rfl
     obtain ⟨z4,_⟩:=hv.cell 4 _ rfl
     obtain ⟨z5,_⟩:=hv.cell 5 _ rfl
     obtain ⟨z6,_⟩:=hv.cell 6 _ rfl
     obtain ⟨z7,_⟩:=hv.cell 7 _ rfl
     obtain ⟨z8,_⟩:=hv.cell 8 _ rfl
     exact .inl (by go_simp)
    refine wpAnyR_takeL (i:=1) (kw:=3) (v:=.pointer (some ⟨s,0,none⟩)) (fun _=>bl_refl _) (fun p q=>bl_trans p q) rfl rfl (by kernel_rfl) (by kernel_rfl) (by kernel_rfl) (by kernel_rfl) (fun _ _ _ h=>h) HC1 (Or.inl ⟨by kernel_rfl,fun W' hI=>?_⟩) (fun HC2=>?_)
    ·exact .inl (by go_simp)
    refine wpAnyR_takeL (i:=2) (kw:=3) (v:=.agg #[.slice M.a1 b.st.length M.c1,.slice M.a2 b.bt.length M.c2,.slice M.a3 b.pd.length M.c3,.slice M.a4 b.fo.length M.c4,.slice M.a5 b.ac.length M.c5,.int .i64 b.tu,.int .i64 b.un,.int .i64 b.ra,.int .i64 b.li]) (fun _=>bl_refl _) (fun p q=>bl_trans p q) rfl rfl (by kernel_rfl) (by kernel_rfl) (by kernel_rfl) (by kernel_rfl) (fun _ _ _ h=>h) HC2 (Or.inl ⟨by kernel_rfl,fun W' hI=>?_⟩) (fun HC3=>?_)
    ·have hv:=(PL5.out.nc.only hI (by omega)).blk
     obtain ⟨z0,_⟩:=hv.cell 0 _ rfl
     obtain ⟨z1,_⟩:=hv.cell 1 _ rfl
     obtain ⟨z2,_⟩:=hv.cell 2 _ rfl
     obtain ⟨z3,_⟩:=hv.cell 3 _ rfl
     obtain ⟨z4,_⟩:=hv.cell 4 _ rfl
     obtain ⟨z5,_⟩:=hv.cell 5 _ rfl
     obtain ⟨z6,_⟩:=hv.cell 6 _ rfl
     obtain ⟨z7,_⟩:=hv.cell 7 _ rfl
     obtain ⟨z8,_⟩:=hv.cell 8 _ rfl
     exact .inl (by go_simp)
    refine wpAnyR_oneL HC3 (i:=3) (by kernel_rfl) rfl (by kernel_rfl) (fun w6 hr=>⟨only_below (bl_drewT hr),?_⟩)
    intro K hK
    have PL6:=Lib.hid (PL5.out.below (bl_drewT hr))
    have Y6:=Lib.hid (only_below (s:=s) (bl_drewT hr))
    have KA6:=Lib.hid (KA.out w6 PL6.out.src PL6.out.nc.rows.rd)
    clear hr KA
    go_simp
    go_wp2_with (go_at_call 73;refine KA6.out.mono ?_;rintro e w7 ⟨kd,x,rfl,hl,hs,ho⟩;have PL7:=Lib.hid (PL6.out.drew hs ho (by omega) (by omega));have Y7:=Lib.hid (only_trans Y6.out ho);have HL:=Lib.hid hl;clear hl hs ho KA6 PL6 Y6)
    intro HC4
    refine wpAnyR_oneL HC4 (i:=4) (by kernel_rfl) rfl (by kernel_rfl) (fun w8 hr=>⟨only_trans Y7.out (only_below hr),?_⟩)
    intro K hK
    have PL8:=Lib.hid (PL7.out.below hr)
    have Y8:=Lib.hid (only_trans Y7.out (only_below hr))
    have KP8:=Lib.hid (KP.out kd x HL.out w8 PL8.out.nc.rows.rd)
    have KS8:=Lib.hid (KS.out kd x HL.out)
    clear hr KP KS PL7 Y7
    unfold NewBx at KP8
    generalize appB b kd x = b' at *
    go_simp
    go_wp2_with (go_at_call 90;refine KP8.out.mono ?_;rintro e w9 ⟨M2,rfl,hR,hb⟩;have R9:=Lib.hid hR;have X9:=Lib.hid hb;clear hR hb KP8)
    intro HC5
    refine wpAnyR_lastL (by kernel_rfl) (by kernel_rfl) rfl (by kernel_rfl) (fun wR hrR=>⟨only_trans Y8.out (only_below (bl_trans X9.out hrR)),?_⟩)
    intro K hK
    have XR:=Lib.hid (bl_trans X9.out hrR)
    have RR:=Lib.hid (R9.out.below hrR)
    clear hrR
    try simp only [Act.put,List.setIfInBounds_toArray,List.set_cons_succ,List.set_cons_zero]
    refine wp_store_blk 27 9 (.tmp 5) (.tmp 25) rfl iB gg rfl [.slice M2.a1 b'.st.length M2.c1,.slice M2.a2 b'.bt.length M2.c2,.slice M2.a3 b'.pd.length M2.c3,.slice M2.a4 b'.fo.length M2.c4,.slice M2.a5 b'.ac.length M2.c5,.int .i64 b'.tu,.int .i64 b'.un,.int .i64 b'.ra,.int .i64 b'.li] rfl rfl (by simp [Value.oneCell']) _ (PL8.out.below XR.out).nc.blk rfl ?_
    intro w11 k9 g9
    have h8:=PL8.out.nc.blk.lt
    have hl8:=PL8.out.nc.lg
    have PL11 : Hid (Pl w s a L c zs W1.heap.size (w.heap.size + 1) gg M2 b' w11):=Lib.hid (PL8.out.put XR.out RR.out k9 g9 (by omega) (by omega) (by omega) HS HB.out)
    refine hK _ _ ?_
    clear hK K k9 g9 h8 hl8 XR RR R9 X9 Y8 PL8 PL5
    go_wp2_with fail
    go_roundw
    case rel=>exact ⟨q - 1,M2,b',by omega,by go_num,KS8,PL11⟩
    case measure=>simp [intOf];omega
  ·have gt : (decide ((q : Int) > 0)) = false:=decide_eq_false (by omega)
   go_wp2_with (first
    | ((with_reducible refine at_st 27 (.tmp 4) (.tmp 26) rfl ?_);(refine wpList_store_blk 27 9 rfl (.tmp 4) (.tmp 26) rfl iB (w.heap.size + 1) rfl [.slice M.a1 b.st.length M.c1,.slice M.a2 b.bt.length M.c2,.slice M.a3 b.pd.length M.c3,.slice M.a4 b.fo.length M.c4,.slice M.a5 b.ac.length M.c5,.int .i64 b.tu,.int .i64 b.un,.int .i64 b.ra,.int .i64 b.li] rfl rfl (by simp [Value.oneCell']) _ PL.out.res rfl ?_);intro w9 k9 g9))
   obtain ⟨z0,_⟩:=k9.cell 0 _ rfl
   obtain ⟨z1x,_⟩:=k9.cell 1 _ rfl
   obtain ⟨z2,_⟩:=k9.cell 2 _ rfl
   obtain ⟨z3,_⟩:=k9.cell 3 _ rfl
   obtain ⟨z4,_⟩:=k9.cell 4 _ rfl
   obtain ⟨z5,_⟩:=k9.cell 5 _ rfl
   obtain ⟨z6,_⟩:=k9.cell 6 _ rfl
   obtain ⟨z7,_⟩:=k9.cell 7 _ rfl
   obtain ⟨z8,_⟩:=k9.cell 8 _ rfl
   exact bodyPost_ret (v:=.agg #[.slice M.a1 b.st.length M.c1,.slice M.a2 b.bt.length M.c2,.slice M.a3 b.pd.length M.c3,.slice M.a4 b.fo.length M.c4,.slice M.a5 b.ac.length M.c5,.int .i64 b.tu,.int .i64 b.un,.int .i64 b.ra,.int .i64 b.li]) (by simp [results,Try.results97,go_sem,z0,z1x,z2,z3,z4,z5,z6,z7,z8]) rfl ⟨M,b,rfl,HP.out,(PL.out.nc.rows.grownB' g9 (by omega)).less (by omega),src_boxA PL.out.src HS HB.out g9 (by omega),only_boxA PL.out.only g9 (by omega)⟩
end Go.Proofs.Ytnllndcajdofjaa
