/-
 The draw of a round.
-/
import Derived.Test.YtnllndcajdofjaaQaDrawPlay
import Derived.Test.YtnllndcajdofjaaQaBetPassG
namespace Go.Proofs.Ytnllndcajdofjaa
open Go.RowKit
set_option linter.unusedVariables false

/-- A drawn round. -/
def DrawnBt (w : World) (s : Nat) (a : Option Addr) (L c : Nat) (zs : Nat → Int) (e : Ending) (w' : World) : Prop :=
 ∃ (M : At5) (b : Bt),e = .returned (.agg #[.slice M.a1 b.st.length M.c1,.slice M.a2 b.bt.length M.c2,.slice M.a3 b.pd.length M.c3,.slice M.a4 b.fo.length M.c4,.slice M.a5 b.ac.length M.c5,.int .i64 b.tu,.int .i64 b.un,.int .i64 b.ra,.int .i64 b.li]) ∧ Ln b ∧ Good b ∧ Row5 w' w.heap.size M b ∧ Src w' s a L c zs ∧ Only s w w'
/-- A played round,its lists' places written out. -/
def DrawnPx (f : Int) (w : World) (s : Nat) (a : Option Addr) (L c : Nat) (zs : Nat → Int) (e : Ending) (w' : World) : Prop :=
 ∃ (g1 o1 c1 g2 o2 c2 g3 o3 c3 g4 o4 c4 g5 o5 c5 : Nat) (b : Bt),e = .returned (.agg #[.slice (some ⟨g1,o1,none⟩) b.st.length c1,.slice (some ⟨g2,o2,none⟩) b.bt.length c2,.slice (some ⟨g3,o3,none⟩) b.pd.length c3,.slice (some ⟨g4,o4,none⟩) b.fo.length c4,.slice (some ⟨g5,o5,none⟩) b.ac.length c5,.int .i64 b.tu,.int .i64 b.un,.int .i64 b.ra,.int .i64 b.li]) ∧ Play f b ∧ Row5 w' w.heap.size ⟨some ⟨g1,o1,none⟩,some ⟨g2,o2,none⟩,some ⟨g3,o3,none⟩,some ⟨g4,o4,none⟩,some ⟨g5,o5,none⟩,c1,c2,c3,c4,c5⟩ b ∧ Src w' s a L c zs ∧ Only s w w'
theorem px_of {f : Int} {w : World} {s : Nat} {a : Option Addr} {L c : Nat} {zs : Nat → Int} {e : Ending} {w' : World} (h : DrawnPl f w s a L c zs e w') : DrawnPx f w s a L c zs e w':=by
 obtain ⟨⟨A1,A2,A3,A4,A5,c1,c2,c3,c4,c5⟩,b,rfl,hp,hr,hs,ho⟩:=h
 have k:=hp.ok
 have n2:=k.n2
 obtain ⟨g1,o1,e1,-⟩:=hr.r1.rd.at_0 0 (by omega)
 obtain ⟨g2,o2,e2,-⟩:=hr.r2.rd.at_0 0 (by have:=k.l2;omega)
 obtain ⟨g3,o3,e3,-⟩:=hr.r3.rd.at_0 0 (by have:=k.l3;omega)
 obtain ⟨g4,o4,e4,-⟩:=hr.r4.rd.at_0 0 (by have:=k.l4;omega)
 obtain ⟨g5,o5,e5,-⟩:=hr.r5.rd.at_0 0 (by have:=k.l5;omega)
 simp only at e1 e2 e3 e4 e5
 subst e1 e2 e3 e4 e5
 exact ⟨g1,o1,c1,g2,o2,c2,g3,o3,c3,g4,o4,c4,g5,o5,c5,b,rfl,hp,hr,hs,ho⟩
section
variable {w0 W W' X : World} {s lo gz gg : Nat} {a : Option Addr} {L c : Nat} {zs : Nat → Int} {M M' : At5} {b b' : Bt}
/-- Something of the round is written. -/
theorem Pl.wrote (h : Pl w0 s a L c zs lo gz gg M b W) (hn : NC W' lo gg M' b') {j : Nat} (hg : W.grownBy W' (some j)) (hj : lo ≤ j) (hl : w0.heap.size ≤ lo) (hz : gz < lo) (hs : s < w0.heap.size) (hB : CodeB w0.heap.size a L) : Pl w0 s a L c zs lo gz gg M' b' W' :=
 ⟨hn,h.res.grown hg (fun e=>by have:=Option.some.inj e;omega),src_boxA h.src hs hB hg (by omega),only_boxA h.only hg (by omega)⟩
end
theorem pick_in (ys : List Int) (n q : Nat) (W : World) (s : Nat) (a : Option Addr) (L c : Nat) (zs : Nat → Int) (hB : Blk W q 2 (ints ys)) (h : Src W s a L c zs) (hN : ys.length = n) (h1 : 1 < n) (h2 : n ≤ 100) (hne : q ≠ s) :
  Calls Try.prog 74 #[.pointer (some ⟨s,0,none⟩),.slice (some ⟨q,0,none⟩) n n] W (fun e w'=>∃ x,e = .returned (.int .i64 x) ∧ x ∈ ys ∧ Src w' s a L c zs ∧ Only s W w'):=by
 have K:=Lib.hid (next_idx s q n (nth ys) a L c zs W (by omega) (by omega) (fun i hi=>(hB.int i (by omega)).1) hne h)
 have HM:=Lib.hid (fun i (hi : i < n)=>nth_mem ys i (by omega))
 clear hB h
 go_enter Try.func74,Try.ntmps74
 go_wp2_with (go_at_call 72;refine K.out.mono ?_;rintro e w1 ⟨i,rfl,i0,i1,hc,hs1,ho1⟩)
 go_ret
 exact ⟨nth ys i,rfl,HM.out i i0,hs1,ho1⟩
theorem Row5.cut2 {w : World} {lo g o : Nat} {A1 A3 A4 A5 : Option Addr} {c1 c2 c3 c4 c5 : Nat} {b : Bt} (h : Row5 w lo ⟨A1,some ⟨g,o,none⟩,A3,A4,A5,c1,c2,c3,c4,c5⟩ b) : ∃ ys : List Int,ys.length = b.bt.length - 1 ∧ Row5 w lo ⟨A1,fromAt g o c2 1,A3,A4,A5,c1,c2 - 1,c3,c4,c5⟩ { b with bt:=ys,tu:=0,un:=1,ra:=0,li:=0 }:=by
 have r2 : Row w lo (some ⟨g,o,none⟩) b.bt:=h.r2
 have eb : ∀ x,fromAt g o c2 1 = some x → x.block = g:=fun x e=>by
  unfold fromAt at e
  split at e <;> (obtain rfl:=Option.some.inj e;rfl)
 have key : ∃ ys : List Int,ys.length = b.bt.length - 1 ∧ Row w lo (fromAt g o c2 1) ys:=by
  by_cases hc : c2 = 1
  ·refine ⟨b.bt.take (b.bt.length - 1),by rw [List.length_take];omega,?_⟩
   unfold fromAt
   rw [if_pos hc]
   refine ⟨r2.1,fun h0=>?_⟩
   obtain ⟨g',o',e,hx⟩:=r2.2 (by rw [List.length_take] at h0;omega)
   refine ⟨g',o',e,fun i hi=>?_⟩
   rw [List.length_take] at hi
   have : nth (b.bt.take (b.bt.length - 1)) i = nth b.bt i:=by unfold nth;rw [List.getD_eq_getElem?_getD,List.getD_eq_getElem?_getD,List.getElem?_take,if_pos (by omega)]
   rw [this]
   exact hx i (by omega)
  ·refine ⟨b.bt.drop 1,by rw [List.length_drop],?_⟩
   unfold fromAt
   rw [if_neg hc]
   exact r2.drop 1
 obtain ⟨ys,hy,hr⟩:=key
 refine ⟨ys,hy,h.r1,hr,h.r3,h.r4,h.r5,fun x y ex ey=>?_,h.p13,h.p14,h.p15,fun x y ex ey=>?_,fun x y ex ey=>?_,fun x y ex ey=>?_,h.p34,h.p35,h.p45⟩
 ·rw [eb y ey];exact h.p12 x _ ex rfl
 ·rw [eb x ex];exact h.p23 _ y rfl ey
 ·rw [eb x ex];exact h.p24 _ y rfl ey
 ·rw [eb x ex];exact h.p25 _ y rfl ey
/-- Who has folded,the first j set. -/
def foldT (b : Bt) (j : Nat) : Bt:={ b with fo:=List.replicate j true ++ b.fo.drop j }
theorem foldT_zero (b : Bt) : foldT b 0 = b:=by unfold foldT;simp
theorem foldT_len (b : Bt) (j : Nat) (h : j ≤ b.fo.length) : (foldT b j).fo.length = b.fo.length:=by unfold foldT;simp;omega
theorem foldT_set (b : Bt) (j : Nat) (h : j < b.fo.length) : { foldT b j with fo:=(foldT b j).fo.set j true } = foldT b (j + 1):=by
 unfold foldT
 simp only
 congr 1
 rw [List.set_append_right _ _ (by simp),List.length_replicate,Nat.sub_self,List.drop_eq_getElem_cons h,List.set_cons_zero,List.replicate_succ',List.append_assoc]
 rfl
set_option maxRecDepth 100000 in
set_option maxHeartbeats 6000000 in
theorem l10Draw_any (s : Nat) (a : Option Addr) (L c : Nat) (zs : Nat → Int) (w : World) (h : Src w s a L c zs) :
  Calls Try.prog 65 #[.pointer (some ⟨s,0,none⟩)] w (DrawnBt w s a L c zs):=by
 have hmx : Try.prog.follows .mixedOrders = true:=by kernel_rfl
 have iB : (Try.prog.info? 27).map (·.size) = some 9:=by kernel_rfl
 have i1 : (Try.prog.info? 2).map (·.size) = some 1:=by kernel_rfl
 have iL : (Try.prog.info? 4).map (·.size) = some 1:=by kernel_rfl
 have HS:=src_lt h
 have HB:=Lib.hid (codeB_of h)
 obtain ⟨W1,eW⟩ : ∃ W1,W1 = w.alloc (.cells ([.slice none 0 0,.slice none 0 0,.slice none 0 0,.slice none 0 0,.slice none 0 0,.int .i64 0,.int .i64 0,.int .i64 0,.int .i64 0] : List Value).toArray 27):=⟨_,rfl⟩
 have z1 : W1.heap.size = w.heap.size + 1:=by rw [eW,World.size_alloc]
 have NZ : Hid (Blk W1 w.heap.size 27 [.slice none 0 0,.slice none 0 0,.slice none 0 0,.slice none 0 0,.slice none 0 0,.int .i64 0,.int .i64 0,.int .i64 0,.int .i64 0]):=Lib.hid (by rw [eW];exact blk_new w _ _)
 have B : Hid (Below w.heap.size w W1):=Lib.hid (by rw [eW];exact bl_alloc (bl_refl w) _)
 have S1:=Lib.hid (h.below B.out)
 have KT:=Lib.hid (validTV_any s a L c zs W1 S1.out)
 have KPl:=Lib.hid (fun (A : Option Addr) (k : Nat) (xs : List Int) (b0 p g t l : Int) (W : World) (h : Src W s a L c zs) (hr : Rd W A xs) (hv : tabB xs b0 p g t l = true)=>(l10Play_any s a L c zs A k xs b0 p g t l W h hr hv).mono fun _ _ q=>px_of q)
 clear h
 unfold tV at KPl
 go_enter Try.func65,Try.ntmps65
 go_wp2_with fail
 simp only [List.toArray] at eW
 rw [← eW]
 clear eW
 have SPH : Hid (∀ (W : World) (q : Int),1 < q → q ≤ 100 → Src W s a L c zs → Calls Try.prog 72 #[.pointer (some ⟨s,0,none⟩),.int .i64 q] W (Drew 0 (q - 1) W s a L c zs)):=Lib.hid (fun W q h1 h2 h=>next_any s q a L c zs W h1 (by omega) h)
 go_wp2_with (first
  | (go_at_call 96;refine KT.out.mono ?_;rintro e w2 ⟨A,k,xs,b0,p,g,t,l,rfl,hv,ho,hs,hy⟩;have KP2:=Lib.hid (KPl.out A k xs b0 p g t l w2 hs ho.rd hv);have Y2:=Lib.hid (only_trans (only_below (s:=s) B.out) hy);have NZ2:=Lib.hid (blk_only NZ.out hy (by omega));have g2s : Hid (W1.heap.size ≤ w2.heap.size):=Lib.hid hy.size;clear hv ho hs hy)
  | (go_at_call 97;refine KP2.out.mono ?_;rintro e w3 ⟨g1,o1,c1,g2,o2,c2,g3,o3,c3,g4,o4,c4,g5,o5,c5,b,rfl,hP,hR,hs,hy⟩;have hx:=bl_alloc (bl_refl w3) (.cells ([.slice (some ⟨g1,o1,none⟩) b.st.length c1,.slice (some ⟨g2,o2,none⟩) b.bt.length c2,.slice (some ⟨g3,o3,none⟩) b.pd.length c3,.slice (some ⟨g4,o4,none⟩) b.fo.length c4,.slice (some ⟨g5,o5,none⟩) b.ac.length c5,.int .i64 b.tu,.int .i64 b.un,.int .i64 b.ra,.int .i64 b.li] : List Value).toArray 27);have PL4 : Hid (Pl w s a L c zs W1.heap.size w.heap.size w3.heap.size ⟨some ⟨g1,o1,none⟩,some ⟨g2,o2,none⟩,some ⟨g3,o3,none⟩,some ⟨g4,o4,none⟩,some ⟨g5,o5,none⟩,c1,c2,c3,c4,c5⟩ b (w3.alloc (.cells ([.slice (some ⟨g1,o1,none⟩) b.st.length c1,.slice (some ⟨g2,o2,none⟩) b.bt.length c2,.slice (some ⟨g3,o3,none⟩) b.pd.length c3,.slice (some ⟨g4,o4,none⟩) b.fo.length c4,.slice (some ⟨g5,o5,none⟩) b.ac.length c5,.int .i64 b.tu,.int .i64 b.un,.int .i64 b.ra,.int .i64 b.li] : List Value).toArray 27))):=Lib.hid ⟨NC.new (hR.less g2s.out) (Nat.le_trans g2s.out hy.size),(blk_only NZ2.out hy (by omega)).below hx,hs.below hx,only_trans (only_trans Y2.out hy) (only_below hx)⟩;have HP:=Lib.hid hP;have n2:=hP.ok.n2;have n6:=hP.ok.n6;have PLb:=PL4.out.nc.blk;obtain ⟨r0,-⟩:=PLb.cell 0 _ rfl;clear hP hR hs hy hx PLb KP2 Y2 NZ2)
  | (go_at_call 72;(with_reducible refine (SPH.out _ (b.st.length : Int) (by omega) (by omega) PL4.out.src).mono ?_);rintro e w5 ⟨kq,rfl,kq0,kq1,hs,ho⟩;have PL5:=Lib.hid (PL4.out.drew hs ho (by omega) (by omega));clear hs ho PL4)
  | (go_at_call 72;(with_reducible refine (SPH.out _ 30 (by omega) (by omega) PL5.out.src).mono ?_);rintro e w6 ⟨v,rfl,v0,v1,hs,ho⟩;have PL6:=Lib.hid (PL5.out.drew hs ho (by omega) (by omega));clear hs ho PL5 SPH KPl KT;have PLb:=PL6.out.nc.blk;obtain ⟨q0,-⟩:=PLb.cell 0 _ rfl;obtain ⟨q1,-⟩:=PLb.cell 1 _ rfl;obtain ⟨q2,-⟩:=PLb.cell 2 _ rfl;obtain ⟨q3,-⟩:=PLb.cell 3 _ rfl;obtain ⟨q4,-⟩:=PLb.cell 4 _ rfl;obtain ⟨q5,-⟩:=PLb.cell 5 _ rfl;obtain ⟨q6,-⟩:=PLb.cell 6 _ rfl;obtain ⟨q7,-⟩:=PLb.cell 7 _ rfl;obtain ⟨q8,-⟩:=PLb.cell 8 _ rfl;clear PLb r0)
  | ((with_reducible refine at_st 27 (.tmp 2) (.tmp 75) rfl ?_);(refine wpList_store_blk 27 9 rfl (.tmp 2) (.tmp 75) rfl iB w.heap.size rfl [.slice (some ⟨g1,o1,none⟩) b.st.length c1,.slice (some ⟨g2,o2,none⟩) b.bt.length c2,.slice (some ⟨g3,o3,none⟩) b.pd.length c3,.slice (some ⟨g4,o4,none⟩) b.fo.length c4,.slice (some ⟨g5,o5,none⟩) b.ac.length c5,.int .i64 b.tu,.int .i64 b.un,.int .i64 b.ra,.int .i64 b.li] rfl rfl (by simp [Value.oneCell']) _ PL6.out.res rfl ?_);intro w9 k9 g9))
 ·obtain ⟨kn,rfl⟩:=Int.eq_ofNat_of_zero_le kq0
  have hkn : kn < b.st.length:=by omega
  have hkn' : (kn : Int) < b.st.length:=by omega
  refine wp_region_R (R:=fun a b=>Below a.heap.size a b) (I:=fun W'=>Only s w6 W') (last:=7) (k:=7) (fun _=>bl_refl _) hmx rfl (fun HC0=>?_)
  refine wpAnyR_takeL (i:=0) (kw:=3) (v:=.pointer (some ⟨w3.heap.size,0,none⟩)) (fun _=>bl_refl _) (fun p q=>bl_trans p q) rfl rfl (by kernel_rfl) (by kernel_rfl) (by kernel_rfl) (by kernel_rfl) (fun _ _ _ h=>h) HC0 (Or.inl ⟨by kernel_rfl,fun W' hI=>?_⟩) (fun HC1=>?_)
  ·exact .inl (by go_simp)
  refine wpAnyR_takeL (i:=1) (kw:=2) (v:=.slice (some ⟨g1,o1,none⟩) b.st.length c1) (fun _=>bl_refl _) (fun p q=>bl_trans p q) rfl rfl (by kernel_rfl) (by kernel_rfl) (by kernel_rfl) (by kernel_rfl) (fun _ _ _ h=>h) HC1 (Or.inl ⟨by kernel_rfl,fun W' hI=>?_⟩) (fun HC2=>?_)
  ·have hv:=(PL6.out.nc.only hI (by omega)).blk
   obtain ⟨z0,_⟩:=hv.cell 0 _ rfl
   exact .inl (by go_simp)
  refine wpAnyR_takeL (i:=2) (kw:=2) (v:=.int .i64 kn) (fun _=>bl_refl _) (fun p q=>bl_trans p q) rfl rfl (by kernel_rfl) (by kernel_rfl) (by kernel_rfl) (by kernel_rfl) (fun _ _ _ h=>h) HC2 (Or.inl ⟨by kernel_rfl,fun W' hI=>?_⟩) (fun HC3=>?_)
  ·exact .inl (by go_simp)
  refine wpAnyR_takeL (i:=3) (kw:=2) (v:=.pointer (some ⟨s,0,none⟩)) (fun _=>bl_refl _) (fun p q=>bl_trans p q) rfl rfl (by kernel_rfl) (by kernel_rfl) (by kernel_rfl) (by kernel_rfl) (fun _ _ _ h=>h) HC3 (Or.inl ⟨by kernel_rfl,fun W' hI=>?_⟩) (fun HC4=>?_)
  ·exact .inl (by go_simp)
  refine wpAnyR_oneL HC4 (i:=4) (by kernel_rfl) rfl (by kernel_rfl) (fun w7 hr7=>⟨only_below (bl_drewT hr7),?_⟩)
  intro K hK
  have X7:=Lib.hid (bl_drewT hr7)
  clear hr7
  go_simp
  refine hK _ _ ?_
  clear hK K
  intro HC5
  have NB:=Lib.hid (blk_new w7 2 (ints [-1,0,600000,600001]))
  have HX8:=Lib.hid (bl_trans X7.out (bl_alloc (bl_refl w7) (.cells (ints [-1,0,600000,600001] : List Value).toArray 2)))
  refine wpAnyR_oneL HC5 (i:=5) (by kernel_rfl) rfl (by kernel_rfl) (fun w9 hr9=>⟨only_below (bl_trans HX8.out hr9),?_⟩)
  intro K hK
  have PL9:=Lib.hid (PL6.out.below (bl_trans HX8.out hr9))
  have Y9:=Lib.hid (only_below (s:=s) (bl_trans HX8.out hr9))
  have ls:=src_lt PL6.out.src
  have l7:=X7.out.size
  have KP:=Lib.hid (pick_in [-1,0,600000,600001] 4 w7.heap.size w9 s a L c zs (NB.out.below hr9) PL9.out.src rfl (by omega) (by omega) (by omega))
  clear hr9 ls l7
  go_simp
  go_wp2_with (go_at_call 74;refine KP.out.mono ?_;rintro e w10 ⟨z,rfl,hz,hs,ho⟩;have PL10:=Lib.hid (PL9.out.drew hs ho (by omega) (by omega));have Y10:=Lib.hid (only_trans Y9.out ho);have HZ:=Lib.hid hz;clear hs ho KP Y9 hz)
  intro HC6
  refine wpAnyR_takeL (i:=6) (kw:=6) (v:=.pointer (some ⟨g1,o1 + kn,none⟩)) (fun _=>bl_refl _) (fun p q=>bl_trans p q) rfl rfl (by kernel_rfl) (by kernel_rfl) (by kernel_rfl) (by kernel_rfl) (fun _ _ _ h=>h) HC6 (Or.inl ⟨by kernel_rfl,fun W' hI=>?_⟩) (fun HC7=>?_)
  ·exact .inl (by go_simp)
  refine wpAnyR_lastL (by kernel_rfl) (by kernel_rfl) rfl (by kernel_rfl) (fun wR hrR=>⟨only_trans Y10.out (only_below hrR),?_⟩)
  intro K hK
  have PLR:=Lib.hid (PL10.out.below hrR)
  have r1 : Row wR W1.heap.size (some ⟨g1,o1,none⟩) b.st:=PLR.out.nc.rows.r1
  have cf:=r1.cellAt kn hkn
  have c9:=cf.1
  have f9:=cf.2
  have S:=PLR.out.nc.setSt (gf:=g1) (off:=o1) rfl kn hkn z
  have hlo:=(r1.1 _ rfl).1
  have gw:=(r1.setAt kn hkn z).2
  clear hrR
  go_simp
  refine hK _ _ ?_
  clear hK K c9 f9 cf r1
  obtain ⟨w11,e11⟩ : ∃ w11,w11 = wR.setCell ⟨g1,o1 + kn,none⟩ (.int .i64 z):=⟨_,rfl⟩
  rw [← e11] at S gw ⊢
  clear e11
  have PL11 : Hid (Pl w s a L c zs W1.heap.size w.heap.size w3.heap.size ⟨some ⟨g1,o1,none⟩,some ⟨g2,o2,none⟩,some ⟨g3,o3,none⟩,some ⟨g4,o4,none⟩,some ⟨g5,o5,none⟩,c1,c2,c3,c4,c5⟩ { b with st:=b.st.set kn z } w11):=Lib.hid (PLR.out.wrote S.1 gw hlo (by omega) (by omega) HS HB.out)
  have GD:=Lib.hid (gd_st HP.out kn z hkn (by have q:=HZ.out;simp at q;exact q))
  have LN : Hid (Ln { b with st:=b.st.set kn z }):=Lib.hid (by have q:=ln_play HP.out;exact ⟨by show 2 ≤ (b.st.set kn z).length;rw [List.length_set];exact q.n2,by show (b.st.set kn z).length ≤ 6;rw [List.length_set];exact q.n6,q.m2,q.m3,q.m4,q.m5⟩)
  clear S gw hlo PLR Y10 PL10 PL9 HX8 NB X7 PL6 q0 q1 q2 q3 q4 q5 q6 q7 q8
  have PLb:=PL11.out.nc.blk
  obtain ⟨p0,-⟩:=PLb.cell 0 _ rfl
  obtain ⟨p1,-⟩:=PLb.cell 1 _ rfl
  obtain ⟨p2,-⟩:=PLb.cell 2 _ rfl
  obtain ⟨p3,-⟩:=PLb.cell 3 _ rfl
  obtain ⟨p4,-⟩:=PLb.cell 4 _ rfl
  obtain ⟨p5,-⟩:=PLb.cell 5 _ rfl
  obtain ⟨p6,-⟩:=PLb.cell 6 _ rfl
  obtain ⟨p7,-⟩:=PLb.cell 7 _ rfl
  obtain ⟨p8,-⟩:=PLb.cell 8 _ rfl
  clear PLb
  simp only [List.length_set] at *
  go_wp2_with (first
   | ((with_reducible refine at_st 27 (.tmp 2) (.tmp 75) rfl ?_);(refine wpList_store_blk 27 9 rfl (.tmp 2) (.tmp 75) rfl iB w.heap.size rfl [.slice (some ⟨g1,o1,none⟩) b.st.length c1,.slice (some ⟨g2,o2,none⟩) b.bt.length c2,.slice (some ⟨g3,o3,none⟩) b.pd.length c3,.slice (some ⟨g4,o4,none⟩) b.fo.length c4,.slice (some ⟨g5,o5,none⟩) b.ac.length c5,.int .i64 b.tu,.int .i64 b.un,.int .i64 b.ra,.int .i64 b.li] rfl rfl (by simp [Value.oneCell']) _ PL11.out.res rfl ?_);intro w9 k9 g9))
  obtain ⟨z0,_⟩:=k9.cell 0 _ rfl
  obtain ⟨z1x,_⟩:=k9.cell 1 _ rfl
  obtain ⟨z2,_⟩:=k9.cell 2 _ rfl
  obtain ⟨z3,_⟩:=k9.cell 3 _ rfl
  obtain ⟨z4,_⟩:=k9.cell 4 _ rfl
  obtain ⟨z5,_⟩:=k9.cell 5 _ rfl
  obtain ⟨z6,_⟩:=k9.cell 6 _ rfl
  obtain ⟨z7,_⟩:=k9.cell 7 _ rfl
  obtain ⟨z8,_⟩:=k9.cell 8 _ rfl
  exact bodyPost_ret (v:=.agg #[.slice (some ⟨g1,o1,none⟩) b.st.length c1,.slice (some ⟨g2,o2,none⟩) b.bt.length c2,.slice (some ⟨g3,o3,none⟩) b.pd.length c3,.slice (some ⟨g4,o4,none⟩) b.fo.length c4,.slice (some ⟨g5,o5,none⟩) b.ac.length c5,.int .i64 b.tu,.int .i64 b.un,.int .i64 b.ra,.int .i64 b.li]) (by simp [results,Try.results65,go_sem,z0,z1x,z2,z3,z4,z5,z6,z7,z8]) rfl ⟨⟨some ⟨g1,o1,none⟩,some ⟨g2,o2,none⟩,some ⟨g3,o3,none⟩,some ⟨g4,o4,none⟩,some ⟨g5,o5,none⟩,c1,c2,c3,c4,c5⟩,{ b with st:=b.st.set kn z },by simp,LN.out,GD.out,(PL11.out.nc.rows.grownB' g9 (by omega)).less (by omega),src_boxA PL11.out.src HS HB.out g9 (by omega),only_boxA PL11.out.only g9 (by omega)⟩
 ·have KP:=Lib.hid (pickT_row [-1,(b.st.length : Int),kq] 3 w6 s a L c zs PL6.out.src rfl (by omega) (by omega) (-1) 100 (by intro y hy;simp at hy;omega))
  simp only [List.map_cons,List.map_nil] at KP
  have LN:=Lib.hid (ln_play HP.out)
  clear q1 q2 q3 q4 q5 q6 q7 q8
  go_wp2_with (first
   | (go_at_call 74;refine (KP.out).mono ?_;rintro e w7 ⟨z,rfl,z0,z1x,hs,ho⟩;have PL7:=Lib.hid ((PL6.out.below (bl_alloc (bl_refl w6) _)).drew hs ho (by omega) (by omega));clear hs ho KP)
   | ((with_reducible refine wpList_store_at 2 rfl (.tmp 35) (.tmp 34) rfl i1 w3.heap.size 5 rfl (.int .i64 z) rfl rfl _ _ PL7.out.nc.blk ?_ ?_);(exact (by simp [btL]));intro w8 k5 g5;have PL8:=Lib.hid (PL7.out.wrote (PL7.out.nc.setTu z k5 g5).1 g5 PL7.out.nc.lg (by omega) (by omega) HS HB.out);clear k5 g5;have PLb:=PL8.out.nc.blk;obtain ⟨p0,-⟩:=PLb.cell 0 _ rfl;obtain ⟨p1,-⟩:=PLb.cell 1 _ rfl;obtain ⟨p2,-⟩:=PLb.cell 2 _ rfl;obtain ⟨p3,-⟩:=PLb.cell 3 _ rfl;obtain ⟨p4,-⟩:=PLb.cell 4 _ rfl;obtain ⟨p5,-⟩:=PLb.cell 5 _ rfl;obtain ⟨p6,-⟩:=PLb.cell 6 _ rfl;obtain ⟨p7,-⟩:=PLb.cell 7 _ rfl;obtain ⟨p8,-⟩:=PLb.cell 8 _ rfl;clear PLb)
   | ((with_reducible refine at_st 27 (.tmp 2) (.tmp 75) rfl ?_);(refine wpList_store_blk 27 9 rfl (.tmp 2) (.tmp 75) rfl iB w.heap.size rfl [.slice (some ⟨g1,o1,none⟩) b.st.length c1,.slice (some ⟨g2,o2,none⟩) b.bt.length c2,.slice (some ⟨g3,o3,none⟩) b.pd.length c3,.slice (some ⟨g4,o4,none⟩) b.fo.length c4,.slice (some ⟨g5,o5,none⟩) b.ac.length c5,.int .i64 z,.int .i64 b.un,.int .i64 b.ra,.int .i64 b.li] rfl rfl (by simp [Value.oneCell']) _ PL8.out.res rfl ?_);intro w9 k9 g9))
  obtain ⟨z0,_⟩:=k9.cell 0 _ rfl
  obtain ⟨z1x,_⟩:=k9.cell 1 _ rfl
  obtain ⟨z2,_⟩:=k9.cell 2 _ rfl
  obtain ⟨z3,_⟩:=k9.cell 3 _ rfl
  obtain ⟨z4,_⟩:=k9.cell 4 _ rfl
  obtain ⟨z5,_⟩:=k9.cell 5 _ rfl
  obtain ⟨z6,_⟩:=k9.cell 6 _ rfl
  obtain ⟨z7,_⟩:=k9.cell 7 _ rfl
  obtain ⟨z8,_⟩:=k9.cell 8 _ rfl
  exact bodyPost_ret (v:=.agg #[.slice (some ⟨g1,o1,none⟩) b.st.length c1,.slice (some ⟨g2,o2,none⟩) b.bt.length c2,.slice (some ⟨g3,o3,none⟩) b.pd.length c3,.slice (some ⟨g4,o4,none⟩) b.fo.length c4,.slice (some ⟨g5,o5,none⟩) b.ac.length c5,.int .i64 z,.int .i64 b.un,.int .i64 b.ra,.int .i64 b.li]) (by simp [results,Try.results65,go_sem,z0,z1x,z2,z3,z4,z5,z6,z7,z8]) rfl ⟨⟨some ⟨g1,o1,none⟩,some ⟨g2,o2,none⟩,some ⟨g3,o3,none⟩,some ⟨g4,o4,none⟩,some ⟨g5,o5,none⟩,c1,c2,c3,c4,c5⟩,{ b with tu:=z },rfl,⟨LN.out.n2,LN.out.n6,LN.out.m2,LN.out.m3,LN.out.m4,LN.out.m5⟩,gd_tu HP.out z,(PL8.out.nc.rows.grownB' g9 (by omega)).less (by omega),src_boxA PL8.out.src HS HB.out g9 (by omega),only_boxA PL8.out.only g9 (by omega)⟩
 ·have KP:=Lib.hid (pickT_row [0,100000,100001] 3 w6 s a L c zs PL6.out.src rfl (by omega) (by omega) (0) 100001 (by intro y hy;simp at hy;omega))
  simp only [List.map_cons,List.map_nil] at KP
  have LN:=Lib.hid (ln_play HP.out)
  clear q1 q2 q3 q4 q5 q6 q7 q8
  go_wp2_with (first
   | (go_at_call 74;refine (KP.out).mono ?_;rintro e w7 ⟨z,rfl,z0,z1x,hs,ho⟩;have PL7:=Lib.hid ((PL6.out.below (bl_alloc (bl_refl w6) _)).drew hs ho (by omega) (by omega));clear hs ho KP)
   | ((with_reducible refine wpList_store_at 2 rfl (.tmp 41) (.tmp 40) rfl i1 w3.heap.size 6 rfl (.int .i64 z) rfl rfl _ _ PL7.out.nc.blk ?_ ?_);(exact (by simp [btL]));intro w8 k5 g5;have PL8:=Lib.hid (PL7.out.wrote (PL7.out.nc.setUn z k5 g5).1 g5 PL7.out.nc.lg (by omega) (by omega) HS HB.out);clear k5 g5;have PLb:=PL8.out.nc.blk;obtain ⟨p0,-⟩:=PLb.cell 0 _ rfl;obtain ⟨p1,-⟩:=PLb.cell 1 _ rfl;obtain ⟨p2,-⟩:=PLb.cell 2 _ rfl;obtain ⟨p3,-⟩:=PLb.cell 3 _ rfl;obtain ⟨p4,-⟩:=PLb.cell 4 _ rfl;obtain ⟨p5,-⟩:=PLb.cell 5 _ rfl;obtain ⟨p6,-⟩:=PLb.cell 6 _ rfl;obtain ⟨p7,-⟩:=PLb.cell 7 _ rfl;obtain ⟨p8,-⟩:=PLb.cell 8 _ rfl;clear PLb)
   | ((with_reducible refine at_st 27 (.tmp 2) (.tmp 75) rfl ?_);(refine wpList_store_blk 27 9 rfl (.tmp 2) (.tmp 75) rfl iB w.heap.size rfl [.slice (some ⟨g1,o1,none⟩) b.st.length c1,.slice (some ⟨g2,o2,none⟩) b.bt.length c2,.slice (some ⟨g3,o3,none⟩) b.pd.length c3,.slice (some ⟨g4,o4,none⟩) b.fo.length c4,.slice (some ⟨g5,o5,none⟩) b.ac.length c5,.int .i64 b.tu,.int .i64 z,.int .i64 b.ra,.int .i64 b.li] rfl rfl (by simp [Value.oneCell']) _ PL8.out.res rfl ?_);intro w9 k9 g9))
  obtain ⟨z0,_⟩:=k9.cell 0 _ rfl
  obtain ⟨z1x,_⟩:=k9.cell 1 _ rfl
  obtain ⟨z2,_⟩:=k9.cell 2 _ rfl
  obtain ⟨z3,_⟩:=k9.cell 3 _ rfl
  obtain ⟨z4,_⟩:=k9.cell 4 _ rfl
  obtain ⟨z5,_⟩:=k9.cell 5 _ rfl
  obtain ⟨z6,_⟩:=k9.cell 6 _ rfl
  obtain ⟨z7,_⟩:=k9.cell 7 _ rfl
  obtain ⟨z8,_⟩:=k9.cell 8 _ rfl
  exact bodyPost_ret (v:=.agg #[.slice (some ⟨g1,o1,none⟩) b.st.length c1,.slice (some ⟨g2,o2,none⟩) b.bt.length c2,.slice (some ⟨g3,o3,none⟩) b.pd.length c3,.slice (some ⟨g4,o4,none⟩) b.fo.length c4,.slice (some ⟨g5,o5,none⟩) b.ac.length c5,.int .i64 b.tu,.int .i64 z,.int .i64 b.ra,.int .i64 b.li]) (by simp [results,Try.results65,go_sem,z0,z1x,z2,z3,z4,z5,z6,z7,z8]) rfl ⟨⟨some ⟨g1,o1,none⟩,some ⟨g2,o2,none⟩,some ⟨g3,o3,none⟩,some ⟨g4,o4,none⟩,some ⟨g5,o5,none⟩,c1,c2,c3,c4,c5⟩,{ b with un:=z },rfl,⟨LN.out.n2,LN.out.n6,LN.out.m2,LN.out.m3,LN.out.m4,LN.out.m5⟩,gd_un HP.out z,(PL8.out.nc.rows.grownB' g9 (by omega)).less (by omega),src_boxA PL8.out.src HS HB.out g9 (by omega),only_boxA PL8.out.only g9 (by omega)⟩
 ·have KP:=Lib.hid (pickT_row [-1,4,5] 3 w6 s a L c zs PL6.out.src rfl (by omega) (by omega) (-1) 5 (by intro y hy;simp at hy;omega))
  simp only [List.map_cons,List.map_nil] at KP
  have LN:=Lib.hid (ln_play HP.out)
  clear q1 q2 q3 q4 q5 q6 q7 q8
  go_wp2_with (first
   | (go_at_call 74;refine (KP.out).mono ?_;rintro e w7 ⟨z,rfl,z0,z1x,hs,ho⟩;have PL7:=Lib.hid ((PL6.out.below (bl_alloc (bl_refl w6) _)).drew hs ho (by omega) (by omega));clear hs ho KP)
   | ((with_reducible refine wpList_store_at 2 rfl (.tmp 47) (.tmp 46) rfl i1 w3.heap.size 7 rfl (.int .i64 z) rfl rfl _ _ PL7.out.nc.blk ?_ ?_);(exact (by simp [btL]));intro w8 k5 g5;have PL8:=Lib.hid (PL7.out.wrote (PL7.out.nc.setRa z k5 g5).1 g5 PL7.out.nc.lg (by omega) (by omega) HS HB.out);clear k5 g5;have PLb:=PL8.out.nc.blk;obtain ⟨p0,-⟩:=PLb.cell 0 _ rfl;obtain ⟨p1,-⟩:=PLb.cell 1 _ rfl;obtain ⟨p2,-⟩:=PLb.cell 2 _ rfl;obtain ⟨p3,-⟩:=PLb.cell 3 _ rfl;obtain ⟨p4,-⟩:=PLb.cell 4 _ rfl;obtain ⟨p5,-⟩:=PLb.cell 5 _ rfl;obtain ⟨p6,-⟩:=PLb.cell 6 _ rfl;obtain ⟨p7,-⟩:=PLb.cell 7 _ rfl;obtain ⟨p8,-⟩:=PLb.cell 8 _ rfl;clear PLb)
   | ((with_reducible refine at_st 27 (.tmp 2) (.tmp 75) rfl ?_);(refine wpList_store_blk 27 9 rfl (.tmp 2) (.tmp 75) rfl iB w.heap.size rfl [.slice (some ⟨g1,o1,none⟩) b.st.length c1,.slice (some ⟨g2,o2,none⟩) b.bt.length c2,.slice (some ⟨g3,o3,none⟩) b.pd.length c3,.slice (some ⟨g4,o4,none⟩) b.fo.length c4,.slice (some ⟨g5,o5,none⟩) b.ac.length c5,.int .i64 b.tu,.int .i64 b.un,.int .i64 z,.int .i64 b.li] rfl rfl (by simp [Value.oneCell']) _ PL8.out.res rfl ?_);intro w9 k9 g9))
  obtain ⟨z0,_⟩:=k9.cell 0 _ rfl
  obtain ⟨z1x,_⟩:=k9.cell 1 _ rfl
  obtain ⟨z2,_⟩:=k9.cell 2 _ rfl
  obtain ⟨z3,_⟩:=k9.cell 3 _ rfl
  obtain ⟨z4,_⟩:=k9.cell 4 _ rfl
  obtain ⟨z5,_⟩:=k9.cell 5 _ rfl
  obtain ⟨z6,_⟩:=k9.cell 6 _ rfl
  obtain ⟨z7,_⟩:=k9.cell 7 _ rfl
  obtain ⟨z8,_⟩:=k9.cell 8 _ rfl
  exact bodyPost_ret (v:=.agg #[.slice (some ⟨g1,o1,none⟩) b.st.length c1,.slice (some ⟨g2,o2,none⟩) b.bt.length c2,.slice (some ⟨g3,o3,none⟩) b.pd.length c3,.slice (some ⟨g4,o4,none⟩) b.fo.length c4,.slice (some ⟨g5,o5,none⟩) b.ac.length c5,.int .i64 b.tu,.int .i64 b.un,.int .i64 z,.int .i64 b.li]) (by simp [results,Try.results65,go_sem,z0,z1x,z2,z3,z4,z5,z6,z7,z8]) rfl ⟨⟨some ⟨g1,o1,none⟩,some ⟨g2,o2,none⟩,some ⟨g3,o3,none⟩,some ⟨g4,o4,none⟩,some ⟨g5,o5,none⟩,c1,c2,c3,c4,c5⟩,{ b with ra:=z },rfl,⟨LN.out.n2,LN.out.n6,LN.out.m2,LN.out.m3,LN.out.m4,LN.out.m5⟩,gd_ra HP.out z,(PL8.out.nc.rows.grownB' g9 (by omega)).less (by omega),src_boxA PL8.out.src HS HB.out g9 (by omega),only_boxA PL8.out.only g9 (by omega)⟩
 ·have hl2 : b.bt.length = b.st.length:=HP.out.ok.l2
  have LN:=Lib.hid (ln_play HP.out)
  have HL2:=Lib.hid hl2
  have hsl : ∀ W : World,(Instr.slice 24 (.slice (some ⟨g2,o2,none⟩) b.bt.length c2) (some (.int .i64 1)) none none).run Try.prog W = .ok (.slice (fromAt g2 o2 c2 1) (b.bt.length - 1) (c2 - 1)) W:=run_sliceFrom g2 o2 b.bt.length c2 1 (by omega)
  clear hl2
  refine wp_region_W (last:=12) (k:=12) hmx rfl (fun HC0=>?_)
  refine wpAnyR_takeL (i:=0) (kw:=3) (v:=.pointer (some ⟨w3.heap.size,0,none⟩)) (fun _=>bl_refl _) (fun p q=>bl_trans p q) rfl rfl (by kernel_rfl) (by kernel_rfl) (by kernel_rfl) (by kernel_rfl) (fun _ _ _ h=>h) HC0 (Or.inl ⟨by kernel_rfl,fun W' hI=>?_⟩) (fun HC1=>?_)
  ·exact .inl (by go_simp)
  refine wpAnyR_takeL (i:=1) (kw:=2) (v:=.slice (some ⟨g1,o1,none⟩) b.st.length c1) (fun _=>bl_refl _) (fun p q=>bl_trans p q) rfl rfl (by kernel_rfl) (by kernel_rfl) (by kernel_rfl) (by kernel_rfl) (fun _ _ _ h=>h) HC1 (Or.inl ⟨by kernel_rfl,fun W' hI=>?_⟩) (fun HC2=>?_)
  ·have hv:=(PL6.out.nc.blk).below hI
   obtain ⟨z0,_⟩:=hv.cell 0 _ rfl
   exact .inl (by go_simp)
  refine wpAnyR_takeL (i:=2) (kw:=4) (v:=.pointer (some ⟨w3.heap.size,1,none⟩)) (fun _=>bl_refl _) (fun p q=>bl_trans p q) rfl rfl (by kernel_rfl) (by kernel_rfl) (by kernel_rfl) (by kernel_rfl) (fun _ _ _ h=>h) HC2 (Or.inl ⟨by kernel_rfl,fun W' hI=>?_⟩) (fun HC3=>?_)
  ·exact .inl (by go_simp)
  refine wpAnyR_takeL (i:=3) (kw:=3) (v:=.slice (some ⟨g2,o2,none⟩) b.bt.length c2) (fun _=>bl_refl _) (fun p q=>bl_trans p q) rfl rfl (by kernel_rfl) (by kernel_rfl) (by kernel_rfl) (by kernel_rfl) (fun _ _ _ h=>h) HC3 (Or.inl ⟨by kernel_rfl,fun W' hI=>?_⟩) (fun HC4=>?_)
  ·have hv:=(PL6.out.nc.blk).below hI
   obtain ⟨z1,_⟩:=hv.cell 1 _ rfl
   exact .inl (by go_simp)
  refine wpAnyR_takeL (i:=4) (kw:=2) (v:=.slice (fromAt g2 o2 c2 1) (b.bt.length - 1) (c2 - 1)) (fun _=>bl_refl _) (fun p q=>bl_trans p q) rfl rfl (by kernel_rfl) (by kernel_rfl) (by kernel_rfl) (by kernel_rfl) (fun _ _ _ h=>h) HC4 (Or.inl ⟨by kernel_rfl,fun W' hI=>?_⟩) (fun HC5=>?_)
  ·exact .inl (by go_simp)
  refine wpAnyR_takeL (i:=5) (kw:=3) (v:=.pointer (some ⟨w3.heap.size,2,none⟩)) (fun _=>bl_refl _) (fun p q=>bl_trans p q) rfl rfl (by kernel_rfl) (by kernel_rfl) (by kernel_rfl) (by kernel_rfl) (fun _ _ _ h=>h) HC5 (Or.inl ⟨by kernel_rfl,fun W' hI=>?_⟩) (fun HC6=>?_)
  ·exact .inl (by go_simp)
  refine wpAnyR_takeL (i:=6) (kw:=2) (v:=.slice (some ⟨g3,o3,none⟩) b.pd.length c3) (fun _=>bl_refl _) (fun p q=>bl_trans p q) rfl rfl (by kernel_rfl) (by kernel_rfl) (by kernel_rfl) (by kernel_rfl) (fun _ _ _ h=>h) HC6 (Or.inl ⟨by kernel_rfl,fun W' hI=>?_⟩) (fun HC7=>?_)
  ·have hv:=(PL6.out.nc.blk).below hI
   obtain ⟨z2,_⟩:=hv.cell 2 _ rfl
   exact .inl (by go_simp)
  refine wpAnyR_takeL (i:=7) (kw:=3) (v:=.pointer (some ⟨w3.heap.size,3,none⟩)) (fun _=>bl_refl _) (fun p q=>bl_trans p q) rfl rfl (by kernel_rfl) (by kernel_rfl) (by kernel_rfl) (by kernel_rfl) (fun _ _ _ h=>h) HC7 (Or.inl ⟨by kernel_rfl,fun W' hI=>?_⟩) (fun HC8=>?_)
  ·exact .inl (by go_simp)
  refine wpAnyR_takeL (i:=8) (kw:=2) (v:=.slice (some ⟨g4,o4,none⟩) b.fo.length c4) (fun _=>bl_refl _) (fun p q=>bl_trans p q) rfl rfl (by kernel_rfl) (by kernel_rfl) (by kernel_rfl) (by kernel_rfl) (fun _ _ _ h=>h) HC8 (Or.inl ⟨by kernel_rfl,fun W' hI=>?_⟩) (fun HC9=>?_)
  ·have hv:=(PL6.out.nc.blk).below hI
   obtain ⟨z3,_⟩:=hv.cell 3 _ rfl
   exact .inl (by go_simp)
  refine wpAnyR_takeL (i:=9) (kw:=3) (v:=.pointer (some ⟨w3.heap.size,4,none⟩)) (fun _=>bl_refl _) (fun p q=>bl_trans p q) rfl rfl (by kernel_rfl) (by kernel_rfl) (by kernel_rfl) (by kernel_rfl) (fun _ _ _ h=>h) HC9 (Or.inl ⟨by kernel_rfl,fun W' hI=>?_⟩) (fun HC10=>?_)
  ·exact .inl (by go_simp)
  refine wpAnyR_takeL (i:=10) (kw:=2) (v:=.slice (some ⟨g5,o5,none⟩) b.ac.length c5) (fun _=>bl_refl _) (fun p q=>bl_trans p q) rfl rfl (by kernel_rfl) (by kernel_rfl) (by kernel_rfl) (by kernel_rfl) (fun _ _ _ h=>h) HC10 (Or.inl ⟨by kernel_rfl,fun W' hI=>?_⟩) (fun HC11=>?_)
  ·have hv:=(PL6.out.nc.blk).below hI
   obtain ⟨z4,_⟩:=hv.cell 4 _ rfl
   exact .inl (by go_simp)
  refine wpAnyR_takeL (i:=11) (kw:=1) (v:=.agg #[.slice (some ⟨g1,o1,none⟩) b.st.length c1,.slice (fromAt g2 o2 c2 1) (b.bt.length - 1) (c2 - 1),.slice (some ⟨g3,o3,none⟩) b.pd.length c3,.slice (some ⟨g4,o4,none⟩) b.fo.length c4,.slice (some ⟨g5,o5,none⟩) b.ac.length c5,.int .i64 0,.int .i64 1,.int .i64 0,.int .i64 0]) (fun _=>bl_refl _) (fun p q=>bl_trans p q) rfl rfl (by kernel_rfl) (by kernel_rfl) (by kernel_rfl) (by kernel_rfl) (fun _ _ _ h=>h) HC11 (Or.inl ⟨by kernel_rfl,fun W' hI=>?_⟩) (fun HC12=>?_)
  ·exact .inl (by go_simp)
  refine wpAnyR_lastL (by kernel_rfl) (by kernel_rfl) rfl (by kernel_rfl) (fun wR hrR=>⟨bl_drewT hrR,?_⟩)
  intro K hK
  have PLR:=Lib.hid (PL6.out.below (bl_drewT hrR))
  clear hrR
  try simp only [Act.put,List.setIfInBounds_toArray,List.set_cons_succ,List.set_cons_zero]
  refine wp_store_blk 27 9 (.tmp 2) (.tmp 61) rfl iB w.heap.size rfl [.slice (some ⟨g1,o1,none⟩) b.st.length c1,.slice (fromAt g2 o2 c2 1) (b.bt.length - 1) (c2 - 1),.slice (some ⟨g3,o3,none⟩) b.pd.length c3,.slice (some ⟨g4,o4,none⟩) b.fo.length c4,.slice (some ⟨g5,o5,none⟩) b.ac.length c5,.int .i64 0,.int .i64 1,.int .i64 0,.int .i64 0] rfl rfl (by simp [Value.oneCell']) _ PLR.out.res rfl ?_
  intro w9 k9 g9
  refine hK _ _ ?_
  clear hK K
  go_wp2_with fail
  obtain ⟨ys,hy,hyr⟩:=PLR.out.nc.rows.cut2
  have HY:=Lib.hid hy
  have HYR:=Lib.hid hyr
  clear hy hyr
  obtain ⟨z0,_⟩:=k9.cell 0 _ rfl
  obtain ⟨z1x,_⟩:=k9.cell 1 _ rfl
  obtain ⟨z2,_⟩:=k9.cell 2 _ rfl
  obtain ⟨z3,_⟩:=k9.cell 3 _ rfl
  obtain ⟨z4,_⟩:=k9.cell 4 _ rfl
  obtain ⟨z5,_⟩:=k9.cell 5 _ rfl
  obtain ⟨z6,_⟩:=k9.cell 6 _ rfl
  obtain ⟨z7,_⟩:=k9.cell 7 _ rfl
  obtain ⟨z8,_⟩:=k9.cell 8 _ rfl
  exact bodyPost_ret (v:=.agg #[.slice (some ⟨g1,o1,none⟩) b.st.length c1,.slice (fromAt g2 o2 c2 1) (b.bt.length - 1) (c2 - 1),.slice (some ⟨g3,o3,none⟩) b.pd.length c3,.slice (some ⟨g4,o4,none⟩) b.fo.length c4,.slice (some ⟨g5,o5,none⟩) b.ac.length c5,.int .i64 0,.int .i64 1,.int .i64 0,.int .i64 0]) (by simp [results,Try.results65,go_sem,z0,z1x,z2,z3,z4,z5,z6,z7,z8]) rfl ⟨⟨some ⟨g1,o1,none⟩,fromAt g2 o2 c2 1,some ⟨g3,o3,none⟩,some ⟨g4,o4,none⟩,some ⟨g5,o5,none⟩,c1,c2 - 1,c3,c4,c5⟩,{ b with bt:=ys,tu:=0,un:=1,ra:=0,li:=0 },by rw [HY.out],⟨LN.out.n2,LN.out.n6,by show ys.length ≤ 6;rw [HY.out];have:=LN.out.m2;omega,LN.out.m3,LN.out.m4,LN.out.m5⟩,gd_no (fun q=>by have h1 : ys.length = b.st.length:=q.l2;have:=LN.out.n2;have:=HL2.out;have:=HY.out;omega),(HYR.out.grownB' g9 (by omega)).less (by omega),src_boxA PLR.out.src HS HB.out g9 (by omega),only_boxA PLR.out.only g9 (by omega)⟩
 ·have LN:=Lib.hid (ln_play HP.out)
  have hl4 : Hid (b.fo.length = b.st.length):=Lib.hid HP.out.ok.l4
  have P0 : Hid (Pl w s a L c zs W1.heap.size w.heap.size w3.heap.size ⟨some ⟨g1,o1,none⟩,some ⟨g2,o2,none⟩,some ⟨g3,o3,none⟩,some ⟨g4,o4,none⟩,some ⟨g5,o5,none⟩,c1,c2,c3,c4,c5⟩ (foldT b 0) w6):=by rw [foldT_zero];exact PL6
  clear q0 q1 q2 q3 q4 q5 q6 q7 q8
  go_wp2_with fail
  go_loopw [5] (fun v wr=>∃ j : Nat,j ≤ b.fo.length ∧ v = .int .i64 j ∧ Hid (Pl w s a L c zs W1.heap.size w.heap.size w3.heap.size ⟨some ⟨g1,o1,none⟩,some ⟨g2,o2,none⟩,some ⟨g3,o3,none⟩,some ⟨g4,o4,none⟩,some ⟨g5,o5,none⟩,c1,c2,c3,c4,c5⟩ (foldT b j) wr)) (fun v _=>b.fo.length - (intOf v).toNat)
  case atStart=>exact ⟨0,Nat.zero_le _,rfl,P0⟩
  case round =>
   obtain ⟨j,hj,rfl,PL⟩:=hrel
   clear P0 PL6
   have hfl:=foldT_len b j hj
   have h46:=LN.out.m4
   have PLb : Blk wr w3.heap.size 27 [.slice (some ⟨g1,o1,none⟩) b.st.length c1,.slice (some ⟨g2,o2,none⟩) b.bt.length c2,.slice (some ⟨g3,o3,none⟩) b.pd.length c3,.slice (some ⟨g4,o4,none⟩) b.fo.length c4,.slice (some ⟨g5,o5,none⟩) b.ac.length c5,.int .i64 b.tu,.int .i64 b.un,.int .i64 b.ra,.int .i64 b.li]:=by have q:=PL.out.nc.blk;unfold btL at q;rw [hfl] at q;exact q
   obtain ⟨p0,-⟩:=PLb.cell 0 _ rfl
   obtain ⟨p1,-⟩:=PLb.cell 1 _ rfl
   obtain ⟨p2,-⟩:=PLb.cell 2 _ rfl
   obtain ⟨p3,-⟩:=PLb.cell 3 _ rfl
   obtain ⟨p4,-⟩:=PLb.cell 4 _ rfl
   obtain ⟨p5,-⟩:=PLb.cell 5 _ rfl
   obtain ⟨p6,-⟩:=PLb.cell 6 _ rfl
   obtain ⟨p7,-⟩:=PLb.cell 7 _ rfl
   obtain ⟨p8,-⟩:=PLb.cell 8 _ rfl
   clear PLb
   by_cases hlt : j < b.fo.length
   ·have hlt' : (j : Int) < b.fo.length:=by omega
    have HFS:=Lib.hid (foldT_set b j hlt)
    have r4 : RowB wr W1.heap.size (some ⟨g4,o4,none⟩) (foldT b j).fo:=PL.out.nc.rows.r4
    have cf:=r4.cellAt j (by omega)
    have c9:=cf.1
    have f9:=cf.2
    have S:=PL.out.nc.setFo (gf:=g4) (off:=o4) rfl j (by omega) true
    have hlo:=(r4.1 _ rfl).1
    have gw:=(r4.setAt j (by omega) true).2
    have PL2 : Hid (Pl w s a L c zs W1.heap.size w.heap.size w3.heap.size ⟨some ⟨g1,o1,none⟩,some ⟨g2,o2,none⟩,some ⟨g3,o3,none⟩,some ⟨g4,o4,none⟩,some ⟨g5,o5,none⟩,c1,c2,c3,c4,c5⟩ (foldT b (j + 1)) (wr.setCell ⟨g4,o4 + j,none⟩ (.bool true))):=by rw [← HFS.out];exact Lib.hid (PL.out.wrote S.1 gw hlo (by omega) (by omega) HS HB.out)
    clear S gw hlo cf r4 HFS PL
    simp only [hfl] at *
    go_wp2_with fail
    go_roundw
    case rel=>exact ⟨j + 1,by omega,by go_num,PL2⟩
    case measure=>simp [intOf];omega
   ·obtain rfl : j = b.fo.length:=by omega
    simp only [hfl] at *
    go_wp2_with (first
     | ((with_reducible refine at_st 27 (.tmp 2) (.tmp 75) rfl ?_);(refine wpList_store_blk 27 9 rfl (.tmp 2) (.tmp 75) rfl iB w.heap.size rfl [.slice (some ⟨g1,o1,none⟩) b.st.length c1,.slice (some ⟨g2,o2,none⟩) b.bt.length c2,.slice (some ⟨g3,o3,none⟩) b.pd.length c3,.slice (some ⟨g4,o4,none⟩) b.fo.length c4,.slice (some ⟨g5,o5,none⟩) b.ac.length c5,.int .i64 b.tu,.int .i64 b.un,.int .i64 b.ra,.int .i64 b.li] rfl rfl (by simp [Value.oneCell']) _ PL.out.res rfl ?_);intro w9 k9 g9))
    obtain ⟨z0,_⟩:=k9.cell 0 _ rfl
    obtain ⟨z1x,_⟩:=k9.cell 1 _ rfl
    obtain ⟨z2,_⟩:=k9.cell 2 _ rfl
    obtain ⟨z3,_⟩:=k9.cell 3 _ rfl
    obtain ⟨z4,_⟩:=k9.cell 4 _ rfl
    obtain ⟨z5,_⟩:=k9.cell 5 _ rfl
    obtain ⟨z6,_⟩:=k9.cell 6 _ rfl
    obtain ⟨z7,_⟩:=k9.cell 7 _ rfl
    obtain ⟨z8,_⟩:=k9.cell 8 _ rfl
    exact bodyPost_ret (v:=.agg #[.slice (some ⟨g1,o1,none⟩) b.st.length c1,.slice (some ⟨g2,o2,none⟩) b.bt.length c2,.slice (some ⟨g3,o3,none⟩) b.pd.length c3,.slice (some ⟨g4,o4,none⟩) b.fo.length c4,.slice (some ⟨g5,o5,none⟩) b.ac.length c5,.int .i64 b.tu,.int .i64 b.un,.int .i64 b.ra,.int .i64 b.li]) (by simp [results,Try.results65,go_sem,z0,z1x,z2,z3,z4,z5,z6,z7,z8]) rfl ⟨⟨some ⟨g1,o1,none⟩,some ⟨g2,o2,none⟩,some ⟨g3,o3,none⟩,some ⟨g4,o4,none⟩,some ⟨g5,o5,none⟩,c1,c2,c3,c4,c5⟩,foldT b b.fo.length,by simp [foldT],⟨LN.out.n2,LN.out.n6,LN.out.m2,LN.out.m3,by rw [foldT_len b b.fo.length (Nat.le_refl _)];exact LN.out.m4,LN.out.m5⟩,gd_folded b.fo.length (by unfold foldT;simp) hl4.out,(PL.out.nc.rows.grownB' g9 (by omega)).less (by omega),src_boxA PL.out.src HS HB.out g9 (by omega),only_boxA PL.out.only g9 (by omega)⟩
 ·obtain ⟨z0,_⟩:=k9.cell 0 _ rfl
  obtain ⟨z1x,_⟩:=k9.cell 1 _ rfl
  obtain ⟨z2,_⟩:=k9.cell 2 _ rfl
  obtain ⟨z3,_⟩:=k9.cell 3 _ rfl
  obtain ⟨z4,_⟩:=k9.cell 4 _ rfl
  obtain ⟨z5,_⟩:=k9.cell 5 _ rfl
  obtain ⟨z6,_⟩:=k9.cell 6 _ rfl
  obtain ⟨z7,_⟩:=k9.cell 7 _ rfl
  obtain ⟨z8,_⟩:=k9.cell 8 _ rfl
  exact bodyPost_ret (v:=.agg #[.slice (some ⟨g1,o1,none⟩) b.st.length c1,.slice (some ⟨g2,o2,none⟩) b.bt.length c2,.slice (some ⟨g3,o3,none⟩) b.pd.length c3,.slice (some ⟨g4,o4,none⟩) b.fo.length c4,.slice (some ⟨g5,o5,none⟩) b.ac.length c5,.int .i64 b.tu,.int .i64 b.un,.int .i64 b.ra,.int .i64 b.li]) (by simp [results,Try.results65,go_sem,z0,z1x,z2,z3,z4,z5,z6,z7,z8]) rfl ⟨⟨some ⟨g1,o1,none⟩,some ⟨g2,o2,none⟩,some ⟨g3,o3,none⟩,some ⟨g4,o4,none⟩,some ⟨g5,o5,none⟩,c1,c2,c3,c4,c5⟩,b,rfl,ln_play HP.out,gd_play HP.out,(PL6.out.nc.rows.grownB' g9 (by omega)).less (by omega),src_boxA PL6.out.src HS HB.out g9 (by omega),only_boxA PL6.out.only g9 (by omega)⟩
end Go.Proofs.Ytnllndcajdofjaa
