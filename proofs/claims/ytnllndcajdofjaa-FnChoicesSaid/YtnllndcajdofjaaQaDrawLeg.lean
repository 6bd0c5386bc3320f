/-
 What the laws of a round and an action draw.
-/
import Derived.Test.YtnllndcajdofjaaQaDrawBG
import Derived.Test.YtnllndcajdofjaaQaSpecBetF
namespace Go.Proofs.Ytnllndcajdofjaa
open Go.RowKit
set_option linter.unusedVariables false
set_option linter.unusedSimpArgs false

/-- A round and an action that have been drawn. -/
def DrawnBA (w : World) (e : Ending) (w' : World) : Prop :=
 ∃ (M : At5) (b : Bt) (k x : Int),e = .returned (.tuple #[.agg #[.slice M.a1 b.st.length M.c1,.slice M.a2 b.bt.length M.c2,.slice M.a3 b.pd.length M.c3,.slice M.a4 b.fo.length M.c4,.slice M.a5 b.ac.length M.c5,.int .i64 b.tu,.int .i64 b.un,.int .i64 b.ra,.int .i64 b.li],.agg #[.int .i64 k,.int .i64 x]]) ∧ Ln b ∧ Good b ∧ Row5 w' w.heap.size M b ∧ Below w.heap.size w w'
set_option maxRecDepth 100000 in
set_option maxHeartbeats 4000000 in
theorem drawIsLegal_any (a : Option Addr) (L c : Nat) (zs : Nat → Int) (w : World) (hL : L ≤ 4096) (hc : CodeIn w a L zs) :
  Calls Try.prog 15 #[.slice a L c] w (DrawnBA w):=by
 have hmx : Try.prog.follows .mixedOrders = true:=by kernel_rfl
 have iB : (Try.prog.info? 27).map (·.size) = some 9:=by kernel_rfl
 have iA : (Try.prog.info? 34).map (·.size) = some 2:=by kernel_rfl
 have b1:=bl_alloc (bl_refl w) (.cells ([.slice none 0 0,.slice none 0 0,.slice none 0 0,.slice none 0 0,.slice none 0 0,.int .i64 0,.int .i64 0,.int .i64 0,.int .i64 0] : List Value).toArray 27)
 have b2:=bl_alloc (bl_refl (w.alloc (.cells ([.slice none 0 0,.slice none 0 0,.slice none 0 0,.slice none 0 0,.slice none 0 0,.int .i64 0,.int .i64 0,.int .i64 0,.int .i64 0] : List Value).toArray 27))) (.cells ([.int .i64 0,.int .i64 0] : List Value).toArray 34)
 have n1:=(blk_new w 27 [.slice none 0 0,.slice none 0 0,.slice none 0 0,.slice none 0 0,.slice none 0 0,.int .i64 0,.int .i64 0,.int .i64 0,.int .i64 0]).below b2
 have n2:=blk_new (w.alloc (.cells ([.slice none 0 0,.slice none 0 0,.slice none 0 0,.slice none 0 0,.slice none 0 0,.int .i64 0,.int .i64 0,.int .i64 0,.int .i64 0] : List Value).toArray 27)) 34 [.int .i64 0,.int .i64 0]
 rw [World.size_alloc] at n2
 have h1:=codeIn_below (codeIn_below hc b1) b2
 obtain ⟨W1,eW⟩ : ∃ W1,W1 = (w.alloc (.cells ([.slice none 0 0,.slice none 0 0,.slice none 0 0,.slice none 0 0,.slice none 0 0,.int .i64 0,.int .i64 0,.int .i64 0,.int .i64 0] : List Value).toArray 27)).alloc (.cells ([.int .i64 0,.int .i64 0] : List Value).toArray 34):=⟨_,rfl⟩
 have z1 : W1.heap.size = w.heap.size + 1 + 1:=by rw [eW,World.size_alloc,World.size_alloc]
 have B0:=bl_trans b1 b2
 have zi : w.heap.size + 1 < W1.heap.size:=by omega
 clear z1
 rw [← eW] at n1 n2 h1 B0
 have KF:=Lib.hid (from_any a L c zs W1 hL h1)
 have NB1:=Lib.hid n1
 have NA1:=Lib.hid n2
 have B:=Lib.hid B0
 have SPH : Hid (∀ (s : Nat) (W : World) (q : Int),1 < q → q ≤ 100 → Src W s a L c zs → Calls Try.prog 72 #[.pointer (some ⟨s,0,none⟩),.int .i64 q] W (Drew 0 (q - 1) W s a L c zs)):=Lib.hid (fun s W q h1 h2 h=>next_any s q a L c zs W h1 (by omega) h)
 clear hc b1 b2 n1 n2 h1 B0
 go_enter Try.func15,Try.ntmps15
 go_wp2_with fail
 simp only [List.toArray] at eW
 rw [← eW]
 clear eW
 go_wp2_with (first
  | (go_at_call 66;refine (KF.out).mono ?_;rintro e w1 ⟨rfl,hs1,hb1⟩;have KD:=Lib.hid (l10Draw_any _ _ _ _ _ _ hs1);have NB2:=Lib.hid (NB1.out.below hb1);have NA2:=Lib.hid (NA1.out.below hb1);have Bx:=Lib.hid (bl_trans B.out hb1);have gs1 : Hid (W1.heap.size < w1.heap.size):=Lib.hid (src_lt hs1);clear hs1 hb1 KF NB1 NA1)
  | (go_at_call 65;refine (KD.out).mono ?_;rintro e w2 ⟨M,b,rfl,hl,hg,hr,hs2,hy2⟩;have hx:=bl_alloc (bl_refl w2) (.cells (btL M b).toArray 27);have PL3 : Hid (Pl w1 W1.heap.size a L c zs w1.heap.size w.heap.size w2.heap.size M b (w2.alloc (.cells (btL M b).toArray 27))):=Lib.hid ⟨NC.new hr hy2.size,(blk_only NB2.out hy2 (by omega)).below hx,hs2.below hx,only_trans hy2 (only_below hx)⟩;have NA3:=Lib.hid ((blk_only NA2.out hy2 (by omega)).below hx);have LN:=Lib.hid hl;have GD:=Lib.hid hg;have PLb:=PL3.out.nc.blk;obtain ⟨q0,-⟩:=PLb.cell 0 _ rfl;obtain ⟨q1,-⟩:=PLb.cell 1 _ rfl;obtain ⟨q2,-⟩:=PLb.cell 2 _ rfl;obtain ⟨q3,-⟩:=PLb.cell 3 _ rfl;obtain ⟨q4,-⟩:=PLb.cell 4 _ rfl;obtain ⟨q5,-⟩:=PLb.cell 5 _ rfl;obtain ⟨q6,-⟩:=PLb.cell 6 _ rfl;obtain ⟨q7,-⟩:=PLb.cell 7 _ rfl;obtain ⟨q8,-⟩:=PLb.cell 8 _ rfl;have KO:=Lib.hid (specIsOpen_any M b (w2.alloc (.cells (btL M b).toArray 27)) PL3.out.nc.rows.rd hl.sz);clear PLb hx hr hs2 hy2 hl hg NB2 NA2 KD))
 have HA0:=Lib.hid (fun (ho : (okB b && openB b) = true)=>by
  rw [Bool.and_eq_true] at ho
  exact (⟨ok_of ho.1,ho.2⟩ : Ok b ∧ openB b = true))
 unfold bV btL at KO
 rcases hob : okB b && openB b with _ | _
 ·rw [hob] at KO
  clear HA0 hob
  go_wp2_with (go_at_call 71;refine KO.out.mono ?_;rintro e w4 ⟨rfl,hb⟩;have PL4:=Lib.hid (PL3.out.below hb);have NA4:=Lib.hid (NA3.out.below hb);clear hb PL3 NA3 KO)
  clear q0 q1 q2 q3 q4 q5 q6 q7 q8
  refine wp_region_R (R:=fun a b=>Below a.heap.size a b) (I:=fun W'=>Blk W' w2.heap.size 27 (btL M b)) (last:=11) (k:=11) (fun _=>bl_refl _) hmx rfl (fun HC0=>?_)
  refine wpAnyR_takeL (i:=0) (kw:=12) (v:=.agg #[.slice M.a1 b.st.length M.c1,.slice M.a2 b.bt.length M.c2,.slice M.a3 b.pd.length M.c3,.slice M.a4 b.fo.length M.c4,.slice M.a5 b.ac.length M.c5,.int .i64 b.tu,.int .i64 b.un,.int .i64 b.ra,.int .i64 b.li]) (fun _=>bl_refl _) (fun p q=>bl_trans p q) rfl rfl (by kernel_rfl) (by kernel_rfl) (by kernel_rfl) (by kernel_rfl) (fun _ _ _ h=>h) HC0 (Or.inl ⟨by kernel_rfl,fun W' hI=>?_⟩) (fun HC1=>?_)
  ·have hv:=hI
   obtain ⟨z0,_⟩:=hv.cell 0 _ rfl
   obtain ⟨z1,_⟩:=hv.cell 1 _ rfl
   obtain ⟨z2,_⟩:=hv.cell 2 _ rfl
   obtain ⟨z3,_⟩:=hv.cell 3 _ rfl
   obtain ⟨z4,_⟩:=hv.cell 4 _ rfl
   obtain ⟨z5,_⟩:=hv.cell 5 _ rfl
   obtain ⟨z6,_⟩:=hv.cell 6 _ rfl
   obtain ⟨z7,_⟩:=hv.cell 7 _ rfl
   obtain ⟨z8,_⟩:=hv.cell 8 _ rfl
   exact .inl (by go_simp)
  refine wpAnyR_takeL (i:=1) (kw:=4) (v:=.pointer (some ⟨W1.heap.size,0,none⟩)) (fun _=>bl_refl _) (fun p q=>bl_trans p q) rfl rfl (by kernel_rfl) (by kernel_rfl) (by kernel_rfl) (by kernel_rfl) (fun _ _ _ h=>h) HC1 (Or.inl ⟨by kernel_rfl,fun W' hI=>?_⟩) (fun HC2=>?_)
  ·exact .inl (by go_simp)
  refine wpAnyR_takeL (i:=4) (kw:=3) (v:=.pointer (some ⟨W1.heap.size,0,none⟩)) (fun _=>bl_refl _) (fun p q=>bl_trans p q) rfl rfl (by kernel_rfl) (by kernel_rfl) (by kernel_rfl) (by kernel_rfl) (fun _ _ _ h=>h) HC2 (Or.inl ⟨by kernel_rfl,fun W' hI=>?_⟩) (fun HC3=>?_)
  ·exact .inl (by go_simp)
  refine wpAnyR_takeL (i:=5) (kw:=5) (v:=.pointer (some ⟨W1.heap.size,0,none⟩)) (fun _=>bl_refl _) (fun p q=>bl_trans p q) rfl rfl (by kernel_rfl) (by kernel_rfl) (by kernel_rfl) (by kernel_rfl) (fun _ _ _ h=>h) HC3 (Or.inl ⟨by kernel_rfl,fun W' hI=>?_⟩) (fun HC4=>?_)
  ·exact .inl (by go_simp)
  refine wpAnyR_oneL HC4 (i:=2) (by kernel_rfl) rfl (by kernel_rfl) (fun wa hr=>⟨(PL4.out.below (bl_drewT hr)).nc.blk,?_⟩)
  intro K hK
  have PLa:=Lib.hid (PL4.out.below (bl_drewT hr))
  have NAa:=Lib.hid (NA4.out.below (bl_drewT hr))
  have Ya:=Lib.hid (only_below (s:=W1.heap.size) (bl_drewT hr))
  clear hr
  go_simp
  go_wp2_with (go_at_call 72;refine (SPH.out _ _ 6 (by omega) (by omega) PLa.out.src).mono ?_;rintro e wab ⟨ka,rfl,ka0,ka1,hs,ho⟩;have PLk2:=Lib.hid (PLa.out.drew hs ho gs1.out (by omega));have NAk2:=Lib.hid (blk_only NAa.out ho (by omega));have Yk2:=Lib.hid (only_trans Ya.out ho);clear hs ho PLa NAa Ya)
  intro HC5
  refine wpAnyR_takeL (i:=3) (kw:=2) (v:=.int .i64 (ka - 1)) (fun _=>bl_refl _) (fun p q=>bl_trans p q) rfl rfl (by kernel_rfl) (by kernel_rfl) (by kernel_rfl) (by kernel_rfl) (fun _ _ _ h=>h) HC5 (Or.inl ⟨by kernel_rfl,fun W' hI=>?_⟩) (fun HC6=>?_)
  ·exact .inl (by go_simp;first | done | exact IntWalk.i64_in _ (by omega))
  refine wpAnyR_oneL HC6 (i:=6) (by kernel_rfl) rfl (by kernel_rfl) (fun wc hr=>⟨(PLk2.out.below (hr)).nc.blk,?_⟩)
  intro K hK
  have PLa:=Lib.hid (PLk2.out.below (hr))
  have NAa:=Lib.hid (NAk2.out.below (hr))
  have Ya:=Lib.hid (only_trans Yk2.out (only_below hr))
  clear hr
  go_simp
  go_wp2_with (go_at_call 72;refine (SPH.out _ _ 40 (by omega) (by omega) PLa.out.src).mono ?_;rintro e wcb ⟨kb,rfl,kb0,kb1,hs,ho⟩;have PLk6:=Lib.hid (PLa.out.drew hs ho gs1.out (by omega));have NAk6:=Lib.hid (blk_only NAa.out ho (by omega));have Yk6:=Lib.hid (only_trans Ya.out ho);clear hs ho PLa NAa Ya)
  intro HC7
  refine wpAnyR_oneL HC7 (i:=7) (by kernel_rfl) rfl (by kernel_rfl) (fun wd hr=>⟨(PLk6.out.below hr).nc.blk,?_⟩)
  intro K hK
  have X7:=Lib.hid hr
  clear hr
  go_simp
  refine hK _ _ ?_
  clear hK K
  intro HC8
  have NBq:=Lib.hid (blk_new wd 2 (ints [0,0,kb,100]))
  have HX8:=Lib.hid (bl_trans X7.out (bl_alloc (bl_refl wd) (.cells (ints [0,0,kb,100] : List Value).toArray 2)))
  refine wpAnyR_oneL HC8 (i:=8) (by kernel_rfl) rfl (by kernel_rfl) (fun we hr=>⟨(PLk6.out.below (bl_trans HX8.out hr)).nc.blk,?_⟩)
  intro K hK
  have PLe:=Lib.hid (PLk6.out.below (bl_trans HX8.out hr))
  have NAe:=Lib.hid (NAk6.out.below (bl_trans HX8.out hr))
  have Ye:=Lib.hid (only_trans Yk6.out (only_below (bl_trans HX8.out hr)))
  have ls:=src_lt PLk6.out.src
  have l7:=X7.out.size
  have KP:=Lib.hid (pickA_row [0,0,kb,100] 4 wd.heap.size we W1.heap.size a L c zs (NBq.out.below hr) PLe.out.src rfl (by omega) (by omega) (by omega) 0 100 (by intro y hy;simp at hy;omega))
  clear hr ls l7
  go_simp
  go_wp2_with (go_at_call 74;refine KP.out.mono ?_;rintro e wf ⟨x,rfl,x0,x1,hs,ho⟩;have PL7:=Lib.hid (PLe.out.drew hs ho gs1.out (by omega));have NA7:=Lib.hid (blk_only NAe.out ho (by omega));have Y7:=Lib.hid (only_trans Ye.out ho);clear hs ho KP PLe NAe Ye)
  intro HC9
  refine wpAnyR_takeL (i:=9) (kw:=1) (v:=.agg #[.int .i64 (ka - 1),.int .i64 x]) (fun _=>bl_refl _) (fun p q=>bl_trans p q) rfl rfl (by kernel_rfl) (by kernel_rfl) (by kernel_rfl) (by kernel_rfl) (fun _ _ _ h=>h) HC9 (Or.inl ⟨by kernel_rfl,fun W' hI=>?_⟩) (fun HC10=>?_)
  ·exact .inl (by go_simp)
  refine wpAnyR_oneL HC10 (i:=10) (by kernel_rfl) rfl (by kernel_rfl) (fun w8 hr=>⟨(PL7.out.below hr).nc.blk,?_⟩)
  intro K hK
  have PLs:=Lib.hid (PL7.out.below hr)
  have NAs:=Lib.hid (NA7.out.below hr)
  have Ys:=Lib.hid (only_trans Y7.out (only_below hr))
  clear hr
  try simp only [Act.put,List.setIfInBounds_toArray,List.set_cons_succ,List.set_cons_zero]
  refine wp_store_blk 27 9 (.tmp 2) (.tmp 21) rfl iB w.heap.size rfl [.slice M.a1 b.st.length M.c1,.slice M.a2 b.bt.length M.c2,.slice M.a3 b.pd.length M.c3,.slice M.a4 b.fo.length M.c4,.slice M.a5 b.ac.length M.c5,.int .i64 b.tu,.int .i64 b.un,.int .i64 b.ra,.int .i64 b.li] rfl rfl (by simp [Value.oneCell']) _ PLs.out.res rfl ?_
  intro wu k9 g9
  have NBu:=Lib.hid k9
  have BXu:=Lib.hid (PLs.out.nc.blk.grown g9 (fun e=>by have:=Option.some.inj e;have:=PLs.out.nc.lg;have:=gs1.out;omega))
  have NAu:=Lib.hid (NAs.out.grown g9 (fun e=>by have:=Option.some.inj e;omega))
  have Ru:=Lib.hid (PLs.out.nc.rows.grownB' g9 (by have:=gs1.out;omega))
  have gu : Hid (Below w.heap.size w wu):=Lib.hid (below_grown1 (bl_trans' Bx.out (by omega) PLs.out.only) g9 (Nat.le_refl _))
  clear k9 g9 PLs NAs Ys PL7 NA7 Y7
  refine hK _ _ ?_
  clear hK K
  intro HC11
  refine wpAnyR_lastL (by kernel_rfl) (by kernel_rfl) rfl (by kernel_rfl) (fun wR hrR=>⟨BXu.out.below hrR,?_⟩)
  intro K hK
  have NBR:=Lib.hid (NBu.out.below hrR)
  have NAR:=Lib.hid (NAu.out.below hrR)
  have RR:=Lib.hid (Ru.out.below hrR)
  have gR:=Lib.hid (bl_trans gu.out hrR)
  clear hrR
  try simp only [Act.put,List.setIfInBounds_toArray,List.set_cons_succ,List.set_cons_zero]
  refine wp_store_blk 34 2 (.tmp 3) (.tmp 30) rfl iA (w.heap.size + 1) rfl [.int .i64 (ka - 1),.int .i64 x] rfl rfl (by simp [Value.oneCell']) _ NAR.out rfl ?_
  intro wv k8 g8
  have NBv:=NBR.out.grown g8 (fun e=>by have:=Option.some.inj e;omega)
  have Rv:=Lib.hid (RR.out.grownB' g8 (by have:=gs1.out;omega))
  have gv:=Lib.hid (below_grown1 gR.out g8 (by omega))
  refine hK _ _ ?_
  clear hK K
  go_wp2_with fail
  obtain ⟨z0,_⟩:=NBv.cell 0 _ rfl
  obtain ⟨z1x,_⟩:=NBv.cell 1 _ rfl
  obtain ⟨z2,_⟩:=NBv.cell 2 _ rfl
  obtain ⟨z3,_⟩:=NBv.cell 3 _ rfl
  obtain ⟨z4,_⟩:=NBv.cell 4 _ rfl
  obtain ⟨z5,_⟩:=NBv.cell 5 _ rfl
  obtain ⟨z6,_⟩:=NBv.cell 6 _ rfl
  obtain ⟨z7,_⟩:=NBv.cell 7 _ rfl
  obtain ⟨z8,_⟩:=NBv.cell 8 _ rfl
  obtain ⟨y0',_⟩:=k8.cell 0 _ rfl
  obtain ⟨y1',_⟩:=k8.cell 1 _ rfl
  exact bodyPost_ret (v:=.tuple #[.agg #[.slice M.a1 b.st.length M.c1,.slice M.a2 b.bt.length M.c2,.slice M.a3 b.pd.length M.c3,.slice M.a4 b.fo.length M.c4,.slice M.a5 b.ac.length M.c5,.int .i64 b.tu,.int .i64 b.un,.int .i64 b.ra,.int .i64 b.li],.agg #[.int .i64 (ka - 1),.int .i64 x]]) (by simp [results,Try.results15,go_sem,z0,z1x,z2,z3,z4,z5,z6,z7,z8,y0',y1']) rfl ⟨M,b,_,_,rfl,LN.out,GD.out,Rv.out.less (by have:=gs1.out;omega),gv.out⟩
 ·have HA:=HA0.out hob
  rw [hob] at KO
  clear HA0 hob
  have KA:=Lib.hid (fun (W : World) (h : Src W W1.heap.size a L c zs) (hW : Rd5 W M b)=>l10DrawAction_any W1.heap.size a L c zs M b W h hW HA.1 HA.2)
  clear HA
  unfold bV at KA
  go_wp2_with (first
   | (go_at_call 71;refine KO.out.mono ?_;rintro e w4 ⟨rfl,hb⟩;have PL4:=Lib.hid (PL3.out.below hb);have NA4:=Lib.hid (NA3.out.below hb);clear hb PL3 NA3 KO)
   | (go_at_call 72;refine (SPH.out _ _ 2 (by omega) (by omega) PL4.out.src).mono ?_;rintro e w5 ⟨y,rfl,y0,y1,hs,ho⟩;have PL5:=Lib.hid (PL4.out.drew hs ho gs1.out (by omega));have NA5:=Lib.hid (blk_only NA4.out ho (by omega));clear hs ho PL4 NA4))
  ·clear q0 q1 q2 q3 q4 q5 q6 q7 q8
   refine wp_region_R (R:=fun a b=>Below a.heap.size a b) (I:=fun W'=>Blk W' w2.heap.size 27 (btL M b)) (last:=5) (k:=5) (fun _=>bl_refl _) hmx rfl (fun HC0=>?_)
   refine wpAnyR_takeL (i:=0) (kw:=6) (v:=.agg #[.slice M.a1 b.st.length M.c1,.slice M.a2 b.bt.length M.c2,.slice M.a3 b.pd.length M.c3,.slice M.a4 b.fo.length M.c4,.slice M.a5 b.ac.length M.c5,.int .i64 b.tu,.int .i64 b.un,.int .i64 b.ra,.int .i64 b.li]) (fun _=>bl_refl _) (fun p q=>bl_trans p q) rfl rfl (by kernel_rfl) (by kernel_rfl) (by kernel_rfl) (by kernel_rfl) (fun _ _ _ h=>h) HC0 (Or.inl ⟨by kernel_rfl,fun W' hI=>?_⟩) (fun HC1=>?_)
   ·have hv:=hI
    obtain ⟨z0,_⟩:=hv.cell 0 _ rfl
    obtain ⟨z1,_⟩:=hv.cell 1 _ rfl
    obtain ⟨z2,_⟩:=hv.cell 2 _ rfl
    obtain ⟨z3,_⟩:=hv.cell 3 _ rfl
    obtain ⟨z4,_⟩:=hv.cell 4 _ rfl
    obtain ⟨z5,_⟩:=hv.cell 5 _ rfl
    obtain ⟨z6,_⟩:=hv.cell 6 _ rfl
    obtain ⟨z7,_⟩:=hv.cell 7 _ rfl
    obtain ⟨z8,_⟩:=hv.cell 8 _ rfl
    exact .inl (by go_simp)
   refine wpAnyR_takeL (i:=1) (kw:=2) (v:=.pointer (some ⟨W1.heap.size,0,none⟩)) (fun _=>bl_refl _) (fun p q=>bl_trans p q) rfl rfl (by kernel_rfl) (by kernel_rfl) (by kernel_rfl) (by kernel_rfl) (fun _ _ _ h=>h) HC1 (Or.inl ⟨by kernel_rfl,fun W' hI=>?_⟩) (fun HC2=>?_)
   ·exact .inl (by go_simp)
   refine wpAnyR_takeL (i:=2) (kw:=2) (v:=.agg #[.slice M.a1 b.st.length M.c1,.slice M.a2 b.bt.length M.c2,.slice M.a3 b.pd.length M.c3,.slice M.a4 b.fo.length M.c4,.slice M.a5 b.ac.length M.c5,.int .i64 b.tu,.int .i64 b.un,.int .i64 b.ra,.int .i64 b.li]) (fun _=>bl_refl _) (fun p q=>bl_trans p q) rfl rfl (by kernel_rfl) (by kernel_rfl) (by kernel_rfl) (by kernel_rfl) (fun _ _ _ h=>h) HC2 (Or.inl ⟨by kernel_rfl,fun W' hI=>?_⟩) (fun HC3=>?_)
   ·have hv:=hI
    obtain ⟨z0,_⟩:=hv.cell 0 _ rfl
    obtain ⟨z1,_⟩:=hv.cell 1 _ rfl
    obtain ⟨z2,_⟩:=hv.cell 2 _ rfl
    obtain ⟨z3,_⟩:=hv.cell 3 _ rfl
    obtain ⟨z4,_⟩:=hv.cell 4 _ rfl
    obtain ⟨z5,_⟩:=hv.cell 5 _ rfl
    obtain ⟨z6,_⟩:=hv.cell 6 _ rfl
    obtain ⟨z7,_⟩:=hv.cell 7 _ rfl
    obtain ⟨z8,_⟩:=hv.cell 8 _ rfl
    exact .inl (by go_simp)
   refine wpAnyR_oneL HC3 (i:=3) (by kernel_rfl) rfl (by kernel_rfl) (fun w6 hr=>⟨(PL5.out.below (bl_drewT hr)).nc.blk,?_⟩)
   intro K hK
   have PL6:=Lib.hid (PL5.out.below (bl_drewT hr))
   have NA6:=Lib.hid (NA5.out.below (bl_drewT hr))
   have Y6:=Lib.hid (only_below (s:=W1.heap.size) (bl_drewT hr))
   have KA6:=Lib.hid (KA.out w6 PL6.out.src PL6.out.nc.rows.rd)
   clear hr KA
   go_simp
   go_wp2_with (go_at_call 73;refine KA6.out.mono ?_;rintro e w7 ⟨kd,x,rfl,hl,hs,ho⟩;have PL7:=Lib.hid (PL6.out.drew hs ho gs1.out (by omega));have NA7:=Lib.hid (blk_only NA6.out ho (by omega));have Y7:=Lib.hid (only_trans Y6.out ho);clear hl hs ho KA6 PL6 NA6 Y6)
   intro HC4
   refine wpAnyR_oneL HC4 (i:=4) (by kernel_rfl) rfl (by kernel_rfl) (fun w8 hr=>⟨(PL7.out.below hr).nc.blk,?_⟩)
   intro K hK
   have PLs:=Lib.hid (PL7.out.below hr)
   have NAs:=Lib.hid (NA7.out.below hr)
   have Ys:=Lib.hid (only_trans Y7.out (only_below hr))
   clear hr
   try simp only [Act.put,List.setIfInBounds_toArray,List.set_cons_succ,List.set_cons_zero]
   refine wp_store_blk 27 9 (.tmp 2) (.tmp 17) rfl iB w.heap.size rfl [.slice M.a1 b.st.length M.c1,.slice M.a2 b.bt.length M.c2,.slice M.a3 b.pd.length M.c3,.slice M.a4 b.fo.length M.c4,.slice M.a5 b.ac.length M.c5,.int .i64 b.tu,.int .i64 b.un,.int .i64 b.ra,.int .i64 b.li] rfl rfl (by simp [Value.oneCell']) _ PLs.out.res rfl ?_
   intro wu k9 g9
   have NBu:=Lib.hid k9
   have BXu:=Lib.hid (PLs.out.nc.blk.grown g9 (fun e=>by have:=Option.some.inj e;have:=PLs.out.nc.lg;have:=gs1.out;omega))
   have NAu:=Lib.hid (NAs.out.grown g9 (fun e=>by have:=Option.some.inj e;omega))
   have Ru:=Lib.hid (PLs.out.nc.rows.grownB' g9 (by have:=gs1.out;omega))
   have gu : Hid (Below w.heap.size w wu):=Lib.hid (below_grown1 (bl_trans' Bx.out (by omega) PLs.out.only) g9 (Nat.le_refl _))
   clear k9 g9 PLs NAs Ys PL7 NA7 Y7
   refine hK _ _ ?_
   clear hK K
   intro HC5
   refine wpAnyR_lastL (by kernel_rfl) (by kernel_rfl) rfl (by kernel_rfl) (fun wR hrR=>⟨BXu.out.below hrR,?_⟩)
   intro K hK
   have NBR:=Lib.hid (NBu.out.below hrR)
   have NAR:=Lib.hid (NAu.out.below hrR)
   have RR:=Lib.hid (Ru.out.below hrR)
   have gR:=Lib.hid (bl_trans gu.out hrR)
   clear hrR
   try simp only [Act.put,List.setIfInBounds_toArray,List.set_cons_succ,List.set_cons_zero]
   refine wp_store_blk 34 2 (.tmp 3) (.tmp 20) rfl iA (w.heap.size + 1) rfl [.int .i64 kd,.int .i64 x] rfl rfl (by simp [Value.oneCell']) _ NAR.out rfl ?_
   intro wv k8 g8
   have NBv:=NBR.out.grown g8 (fun e=>by have:=Option.some.inj e;omega)
   have Rv:=Lib.hid (RR.out.grownB' g8 (by have:=gs1.out;omega))
   have gv:=Lib.hid (below_grown1 gR.out g8 (by omega))
   refine hK _ _ ?_
   clear hK K
   go_wp2_with fail
   obtain ⟨z0,_⟩:=NBv.cell 0 _ rfl
   obtain ⟨z1x,_⟩:=NBv.cell 1 _ rfl
   obtain ⟨z2,_⟩:=NBv.cell 2 _ rfl
   obtain ⟨z3,_⟩:=NBv.cell 3 _ rfl
   obtain ⟨z4,_⟩:=NBv.cell 4 _ rfl
   obtain ⟨z5,_⟩:=NBv.cell 5 _ rfl
   obtain ⟨z6,_⟩:=NBv.cell 6 _ rfl
   obtain ⟨z7,_⟩:=NBv.cell 7 _ rfl
   obtain ⟨z8,_⟩:=NBv.cell 8 _ rfl
   obtain ⟨y0',_⟩:=k8.cell 0 _ rfl
   obtain ⟨y1',_⟩:=k8.cell 1 _ rfl
   exact bodyPost_ret (v:=.tuple #[.agg #[.slice M.a1 b.st.length M.c1,.slice M.a2 b.bt.length M.c2,.slice M.a3 b.pd.length M.c3,.slice M.a4 b.fo.length M.c4,.slice M.a5 b.ac.length M.c5,.int .i64 b.tu,.int .i64 b.un,.int .i64 b.ra,.int .i64 b.li],.agg #[.int .i64 kd,.int .i64 x]]) (by simp [results,Try.results15,go_sem,z0,z1x,z2,z3,z4,z5,z6,z7,z8,y0',y1']) rfl ⟨M,b,_,_,rfl,LN.out,GD.out,Rv.out.less (by have:=gs1.out;omega),gv.out⟩
  ·clear q0 q1 q2 q3 q4 q5 q6 q7 q8 KA
   refine wp_region_R (R:=fun a b=>Below a.heap.size a b) (I:=fun W'=>Blk W' w2.heap.size 27 (btL M b)) (last:=11) (k:=11) (fun _=>bl_refl _) hmx rfl (fun HC0=>?_)
   refine wpAnyR_takeL (i:=0) (kw:=12) (v:=.agg #[.slice M.a1 b.st.length M.c1,.slice M.a2 b.bt.length M.c2,.slice M.a3 b.pd.length M.c3,.slice M.a4 b.fo.length M.c4,.slice M.a5 b.ac.length M.c5,.int .i64 b.tu,.int .i64 b.un,.int .i64 b.ra,.int .i64 b.li]) (fun _=>bl_refl _) (fun p q=>bl_trans p q) rfl rfl (by kernel_rfl) (by kernel_rfl) (by kernel_rfl) (by kernel_rfl) (fun _ _ _ h=>h) HC0 (Or.inl ⟨by kernel_rfl,fun W' hI=>?_⟩) (fun HC1=>?_)
   ·have hv:=hI
    obtain ⟨z0,_⟩:=hv.cell 0 _ rfl
    obtain ⟨z1,_⟩:=hv.cell 1 _ rfl
    obtain ⟨z2,_⟩:=hv.cell 2 _ rfl
    obtain ⟨z3,_⟩:=hv.cell 3 _ rfl
    obtain ⟨z4,_⟩:=hv.cell 4 _ rfl
    obtain ⟨z5,_⟩:=hv.cell 5 _ rfl
    obtain ⟨z6,_⟩:=hv.cell 6 _ rfl
    obtain ⟨z7,_⟩:=hv.cell 7 _ rfl
    obtain ⟨z8,_⟩:=hv.cell 8 _ rfl
    exact .inl (by go_simp)
   refine wpAnyR_takeL (i:=1) (kw:=4) (v:=.pointer (some ⟨W1.heap.size,0,none⟩)) (fun _=>bl_refl _) (fun p q=>bl_trans p q) rfl rfl (by kernel_rfl) (by kernel_rfl) (by kernel_rfl) (by kernel_rfl) (fun _ _ _ h=>h) HC1 (Or.inl ⟨by kernel_rfl,fun W' hI=>?_⟩) (fun HC2=>?_)
   ·exact .inl (by go_simp)
   refine wpAnyR_takeL (i:=4) (kw:=3) (v:=.pointer (some ⟨W1.heap.size,0,none⟩)) (fun _=>bl_refl _) (fun p q=>bl_trans p q) rfl rfl (by kernel_rfl) (by kernel_rfl) (by kernel_rfl) (by kernel_rfl) (fun _ _ _ h=>h) HC2 (Or.inl ⟨by kernel_rfl,fun W' hI=>?_⟩) (fun HC3=>?_)
   ·exact .inl (by go_simp)
   refine wpAnyR_takeL (i:=5) (kw:=5) (v:=.pointer (some ⟨W1.heap.size,0,none⟩)) (fun _=>bl_refl _) (fun p q=>bl_trans p q) rfl rfl (by kernel_rfl) (by kernel_rfl) (by kernel_rfl) (by kernel_rfl) (fun _ _ _ h=>h) HC3 (Or.inl ⟨by kernel_rfl,fun W' hI=>?_⟩) (fun HC4=>?_)
   ·exact .inl (by go_simp)
   refine wpAnyR_oneL HC4 (i:=2) (by kernel_rfl) rfl (by kernel_rfl) (fun wa hr=>⟨(PL5.out.below (bl_drewT hr)).nc.blk,?_⟩)
   intro K hK
   have PLa:=Lib.hid (PL5.out.below (bl_drewT hr))
   have NAa:=Lib.hid (NA5.out.below (bl_drewT hr))
   have Ya:=Lib.hid (only_below (s:=W1.heap.size) (bl_drewT hr))
   clear hr
   go_simp
   go_wp2_with (go_at_call 72;refine (SPH.out _ _ 6 (by omega) (by omega) PLa.out.src).mono ?_;rintro e wab ⟨ka,rfl,ka0,ka1,hs,ho⟩;have PLk2:=Lib.hid (PLa.out.drew hs ho gs1.out (by omega));have NAk2:=Lib.hid (blk_only NAa.out ho (by omega));have Yk2:=Lib.hid (only_trans Ya.out ho);clear hs ho PLa NAa Ya)
   intro HC5
   refine wpAnyR_takeL (i:=3) (kw:=2) (v:=.int .i64 (ka - 1)) (fun _=>bl_refl _) (fun p q=>bl_trans p q) rfl rfl (by kernel_rfl) (by kernel_rfl) (by kernel_rfl) (by kernel_rfl) (fun _ _ _ h=>h) HC5 (Or.inl ⟨by kernel_rfl,fun W' hI=>?_⟩) (fun HC6=>?_)
   ·exact .inl (by go_simp;first | done | exact IntWalk.i64_in _ (by omega))
   refine wpAnyR_oneL HC6 (i:=6) (by kernel_rfl) rfl (by kernel_rfl) (fun wc hr=>⟨(PLk2.out.below (hr)).nc.blk,?_⟩)
   intro K hK
   have PLa:=Lib.hid (PLk2.out.below (hr))
   have NAa:=Lib.hid (NAk2.out.below (hr))
   have Ya:=Lib.hid (only_trans Yk2.out (only_below hr))
   clear hr
   go_simp
   go_wp2_with (go_at_call 72;refine (SPH.out _ _ 40 (by omega) (by omega) PLa.out.src).mono ?_;rintro e wcb ⟨kb,rfl,kb0,kb1,hs,ho⟩;have PLk6:=Lib.hid (PLa.out.drew hs ho gs1.out (by omega));have NAk6:=Lib.hid (blk_only NAa.out ho (by omega));have Yk6:=Lib.hid (only_trans Ya.out ho);clear hs ho PLa NAa Ya)
   intro HC7
   refine wpAnyR_oneL HC7 (i:=7) (by kernel_rfl) rfl (by kernel_rfl) (fun wd hr=>⟨(PLk6.out.below hr).nc.blk,?_⟩)
   intro K hK
   have X7:=Lib.hid hr
   clear hr
   go_simp
   refine hK _ _ ?_
   clear hK K
   intro HC8
   have NBq:=Lib.hid (blk_new wd 2 (ints [0,0,kb,100]))
   have HX8:=Lib.hid (bl_trans X7.out (bl_alloc (bl_refl wd) (.cells (ints [0,0,kb,100] : List Value).toArray 2)))
   refine wpAnyR_oneL HC8 (i:=8) (by kernel_rfl) rfl (by kernel_rfl) (fun we hr=>⟨(PLk6.out.below (bl_trans HX8.out hr)).nc.blk,?_⟩)
   intro K hK
   have PLe:=Lib.hid (PLk6.out.below (bl_trans HX8.out hr))
   have NAe:=Lib.hid (NAk6.out.below (bl_trans HX8.out hr))
   have Ye:=Lib.hid (only_trans Yk6.out (only_below (bl_trans HX8.out hr)))
   have ls:=src_lt PLk6.out.src
   have l7:=X7.out.size
   have KP:=Lib.hid (pickA_row [0,0,kb,100] 4 wd.heap.size we W1.heap.size a L c zs (NBq.out.below hr) PLe.out.src rfl (by omega) (by omega) (by omega) 0 100 (by intro y hy;simp at hy;omega))
   clear hr ls l7
   go_simp
   go_wp2_with (go_at_call 74;refine KP.out.mono ?_;rintro e wf ⟨x,rfl,x0,x1,hs,ho⟩;have PL7:=Lib.hid (PLe.out.drew hs ho gs1.out (by omega));have NA7:=Lib.hid (blk_only NAe.out ho (by omega));have Y7:=Lib.hid (only_trans Ye.out ho);clear hs ho KP PLe NAe Ye)
   intro HC9
   refine wpAnyR_takeL (i:=9) (kw:=1) (v:=.agg #[.int .i64 (ka - 1),.int .i64 x]) (fun _=>bl_refl _) (fun p q=>bl_trans p q) rfl rfl (by kernel_rfl) (by kernel_rfl) (by kernel_rfl) (by kernel_rfl) (fun _ _ _ h=>h) HC9 (Or.inl ⟨by kernel_rfl,fun W' hI=>?_⟩) (fun HC10=>?_)
   ·exact .inl (by go_simp)
   refine wpAnyR_oneL HC10 (i:=10) (by kernel_rfl) rfl (by kernel_rfl) (fun w8 hr=>⟨(PL7.out.below hr).nc.blk,?_⟩)
   intro K hK
   have PLs:=Lib.hid (PL7.out.below hr)
   have NAs:=Lib.hid (NA7.out.below hr)
   have Ys:=Lib.hid (only_trans Y7.out (only_below hr))
   clear hr
   try simp only [Act.put,List.setIfInBounds_toArray,List.set_cons_succ,List.set_cons_zero]
   refine wp_store_blk 27 9 (.tmp 2) (.tmp 21) rfl iB w.heap.size rfl [.slice M.a1 b.st.length M.c1,.slice M.a2 b.bt.length M.c2,.slice M.a3 b.pd.length M.c3,.slice M.a4 b.fo.length M.c4,.slice M.a5 b.ac.length M.c5,.int .i64 b.tu,.int .i64 b.un,.int .i64 b.ra,.int .i64 b.li] rfl rfl (by simp [Value.oneCell']) _ PLs.out.res rfl ?_
   intro wu k9 g9
   have NBu:=Lib.hid k9
   have BXu:=Lib.hid (PLs.out.nc.blk.grown g9 (fun e=>by have:=Option.some.inj e;have:=PLs.out.nc.lg;have:=gs1.out;omega))
   have NAu:=Lib.hid (NAs.out.grown g9 (fun e=>by have:=Option.some.inj e;omega))
   have Ru:=Lib.hid (PLs.out.nc.rows.grownB' g9 (by have:=gs1.out;omega))
   have gu : Hid (Below w.heap.size w wu):=Lib.hid (below_grown1 (bl_trans' Bx.out (by omega) PLs.out.only) g9 (Nat.le_refl _))
   clear k9 g9 PLs NAs Ys PL7 NA7 Y7
   refine hK _ _ ?_
   clear hK K
   intro HC11
   refine wpAnyR_lastL (by kernel_rfl) (by kernel_rfl) rfl (by kernel_rfl) (fun wR hrR=>⟨BXu.out.below hrR,?_⟩)
   intro K hK
   have NBR:=Lib.hid (NBu.out.below hrR)
   have NAR:=Lib.hid (NAu.out.below hrR)
   have RR:=Lib.hid (Ru.out.below hrR)
   have gR:=Lib.hid (bl_trans gu.out hrR)
   clear hrR
   try simp only [Act.put,List.setIfInBounds_toArray,List.set_cons_succ,List.set_cons_zero]
   refine wp_store_blk 34 2 (.tmp 3) (.tmp 30) rfl iA (w.heap.size + 1) rfl [.int .i64 (ka - 1),.int .i64 x] rfl rfl (by simp [Value.oneCell']) _ NAR.out rfl ?_
   intro wv k8 g8
   have NBv:=NBR.out.grown g8 (fun e=>by have:=Option.some.inj e;omega)
   have Rv:=Lib.hid (RR.out.grownB' g8 (by have:=gs1.out;omega))
   have gv:=Lib.hid (below_grown1 gR.out g8 (by omega))
   refine hK _ _ ?_
   clear hK K
   go_wp2_with fail
   obtain ⟨z0,_⟩:=NBv.cell 0 _ rfl
   obtain ⟨z1x,_⟩:=NBv.cell 1 _ rfl
   obtain ⟨z2,_⟩:=NBv.cell 2 _ rfl
   obtain ⟨z3,_⟩:=NBv.cell 3 _ rfl
   obtain ⟨z4,_⟩:=NBv.cell 4 _ rfl
   obtain ⟨z5,_⟩:=NBv.cell 5 _ rfl
   obtain ⟨z6,_⟩:=NBv.cell 6 _ rfl
   obtain ⟨z7,_⟩:=NBv.cell 7 _ rfl
   obtain ⟨z8,_⟩:=NBv.cell 8 _ rfl
   obtain ⟨y0',_⟩:=k8.cell 0 _ rfl
   obtain ⟨y1',_⟩:=k8.cell 1 _ rfl
   exact bodyPost_ret (v:=.tuple #[.agg #[.slice M.a1 b.st.length M.c1,.slice M.a2 b.bt.length M.c2,.slice M.a3 b.pd.length M.c3,.slice M.a4 b.fo.length M.c4,.slice M.a5 b.ac.length M.c5,.int .i64 b.tu,.int .i64 b.un,.int .i64 b.ra,.int .i64 b.li],.agg #[.int .i64 (ka - 1),.int .i64 x]]) (by simp [results,Try.results15,go_sem,z0,z1x,z2,z3,z4,z5,z6,z7,z8,y0',y1']) rfl ⟨M,b,_,_,rfl,LN.out,GD.out,Rv.out.less (by have:=gs1.out;omega),gv.out⟩
set_option maxRecDepth 100000 in
set_option maxHeartbeats 1000000 in
theorem drawApplyAction_any (a : Option Addr) (L c : Nat) (zs : Nat → Int) (w : World) (hL : L ≤ 4096) (hc : CodeIn w a L zs) :
  Calls Try.prog 21 #[.slice a L c] w (DrawnBA w):=by
 have iB : (Try.prog.info? 27).map (·.size) = some 9:=by kernel_rfl
 have iA : (Try.prog.info? 34).map (·.size) = some 2:=by kernel_rfl
 have b1:=bl_alloc (bl_refl w) (.cells ([.slice none 0 0,.slice none 0 0,.slice none 0 0,.slice none 0 0,.slice none 0 0,.int .i64 0,.int .i64 0,.int .i64 0,.int .i64 0] : List Value).toArray 27)
 have b2:=bl_alloc (bl_refl (w.alloc (.cells ([.slice none 0 0,.slice none 0 0,.slice none 0 0,.slice none 0 0,.slice none 0 0,.int .i64 0,.int .i64 0,.int .i64 0,.int .i64 0] : List Value).toArray 27))) (.cells ([.int .i64 0,.int .i64 0] : List Value).toArray 34)
 have n1:=(blk_new w 27 [.slice none 0 0,.slice none 0 0,.slice none 0 0,.slice none 0 0,.slice none 0 0,.int .i64 0,.int .i64 0,.int .i64 0,.int .i64 0]).below b2
 have n2:=blk_new (w.alloc (.cells ([.slice none 0 0,.slice none 0 0,.slice none 0 0,.slice none 0 0,.slice none 0 0,.int .i64 0,.int .i64 0,.int .i64 0,.int .i64 0] : List Value).toArray 27)) 34 [.int .i64 0,.int .i64 0]
 rw [World.size_alloc] at n2
 have h1:=codeIn_below (codeIn_below hc b1) b2
 have KD:=Lib.hid (drawIsLegal_any a L c zs _ hL h1)
 have hz : w.heap.size + 1 < ((w.alloc (.cells ([.slice none 0 0,.slice none 0 0,.slice none 0 0,.slice none 0 0,.slice none 0 0,.int .i64 0,.int .i64 0,.int .i64 0,.int .i64 0] : List Value).toArray 27)).alloc (.cells ([.int .i64 0,.int .i64 0] : List Value).toArray 34)).heap.size:=by rw [World.size_alloc,World.size_alloc];omega
 have HZ:=Lib.hid hz
 have NB1:=Lib.hid n1
 have NA1:=Lib.hid n2
 have B:=Lib.hid (bl_trans b1 b2)
 clear hc b1 b2 n1 n2 h1 hz
 go_enter Try.func21,Try.ntmps21
 go_wp2_with (first
  | (go_at_call 15;refine (KD.out).mono ?_;rintro e w2 ⟨M,b,k,x,rfl,hl,hg,hr,hb⟩;have LN:=Lib.hid hl;have GD:=Lib.hid hg;have RR:=Lib.hid hr;have NB2:=Lib.hid (NB1.out.below hb);have NA2:=Lib.hid (NA1.out.below hb);have B2:=Lib.hid (bl_trans B.out hb);clear hl hg hr hb)
  | ((with_reducible refine at_st 27 (.tmp 2) (.tmp 6) rfl ?_);(refine wpList_store_blk 27 9 rfl (.tmp 2) (.tmp 6) rfl iB w.heap.size rfl [.slice M.a1 b.st.length M.c1,.slice M.a2 b.bt.length M.c2,.slice M.a3 b.pd.length M.c3,.slice M.a4 b.fo.length M.c4,.slice M.a5 b.ac.length M.c5,.int .i64 b.tu,.int .i64 b.un,.int .i64 b.ra,.int .i64 b.li] rfl rfl (by simp [Value.oneCell']) _ NB2.out rfl ?_);intro w3 k9 g9;have NB3:=Lib.hid k9;have NA3:=Lib.hid (NA2.out.grown g9 (fun e=>by have:=Option.some.inj e;omega));have B3:=Lib.hid (below_grown1 B2.out g9 (Nat.le_refl _));have R3:=Lib.hid (RR.out.grownB' g9 (by have:=HZ.out;omega));clear k9 g9)
  | ((with_reducible refine at_st 34 (.tmp 3) (.tmp 7) rfl ?_);(refine wpList_store_blk 34 2 rfl (.tmp 3) (.tmp 7) rfl iA (w.heap.size + 1) rfl [.int .i64 k,.int .i64 x] rfl rfl (by simp [Value.oneCell']) _ NA3.out rfl ?_);intro w4 k8 g8;have NB4:=Lib.hid (NB3.out.grown g8 (fun e=>by have:=Option.some.inj e;omega));have B4:=Lib.hid (below_grown1 B3.out g8 (by omega))))
 have NBv:=NB4.out
 obtain ⟨z0,_⟩:=NBv.cell 0 _ rfl
 obtain ⟨z1,_⟩:=NBv.cell 1 _ rfl
 obtain ⟨z2,_⟩:=NBv.cell 2 _ rfl
 obtain ⟨z3,_⟩:=NBv.cell 3 _ rfl
 obtain ⟨z4,_⟩:=NBv.cell 4 _ rfl
 obtain ⟨z5,_⟩:=NBv.cell 5 _ rfl
 obtain ⟨z6,_⟩:=NBv.cell 6 _ rfl
 obtain ⟨z7,_⟩:=NBv.cell 7 _ rfl
 obtain ⟨z8,_⟩:=NBv.cell 8 _ rfl
 obtain ⟨y0',_⟩:=k8.cell 0 _ rfl
 obtain ⟨y1',_⟩:=k8.cell 1 _ rfl
 exact bodyPost_ret (v:=.tuple #[.agg #[.slice M.a1 b.st.length M.c1,.slice M.a2 b.bt.length M.c2,.slice M.a3 b.pd.length M.c3,.slice M.a4 b.fo.length M.c4,.slice M.a5 b.ac.length M.c5,.int .i64 b.tu,.int .i64 b.un,.int .i64 b.ra,.int .i64 b.li],.agg #[.int .i64 k,.int .i64 x]]) (by simp [results,Try.results21,go_sem,z0,z1,z2,z3,z4,z5,z6,z7,z8,y0',y1']) rfl ⟨M,b,_,_,rfl,LN.out,GD.out,(R3.out.grownB' g8 HZ.out).less (by have:=HZ.out;omega),B4.out⟩
end Go.Proofs.Ytnllndcajdofjaa
