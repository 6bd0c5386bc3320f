/-
 The model: a round of one's own.
-/
import Derived.Test.YtnllndcajdofjaaQbSpecBetNG
import Derived.Test.YtnllndcajdofjaaQbSpecBetLG
namespace Go.Proofs.Ytnllndcajdofjaa
open Go.RowKit
set_option linter.unusedVariables false

set_option maxRecDepth 100000 in
set_option maxHeartbeats 8000000 in
theorem l10Own_any (L : At5) (b : Bt) (w : World) (h : Rd5 w L b) (m : Sm b) :
  Calls Try.prog 112 #[bV L b] w (NewBt b w):=by
 have hmx : Try.prog.follows .mixedOrders = true:=by kernel_rfl
 have iB : (Try.prog.info? 27).map (·.size) = some 9:=by kernel_rfl
 have b1:=bl_box (w:=w) (L:=L) (b:=b)
 have b2:=bl_alloc (bl_refl (w.alloc (.cells (btL L b).toArray 27))) (.cells ([.slice none 0 0,.slice none 0 0,.slice none 0 0,.slice none 0 0,.slice none 0 0,.int .i64 0,.int .i64 0,.int .i64 0,.int .i64 0] : List Value).toArray 27)
 have BT:=(btAt_new h).below b2
 have n1:=blk_new (w.alloc (.cells (btL L b).toArray 27)) 27 [.slice none 0 0,.slice none 0 0,.slice none 0 0,.slice none 0 0,.slice none 0 0,.int .i64 0,.int .i64 0,.int .i64 0,.int .i64 0]
 rw [World.size_alloc] at n1
 have B0:=bl_trans b1 b2
 have m1:=m.m1
 have m2:=m.m2
 have m3:=m.m3
 have m4:=m.m4
 have m5:=m.m5
 obtain ⟨W1,eW⟩ : ∃ W1,W1 = ((w.alloc (.cells (btL L b).toArray 27)).alloc (.cells ([.slice none 0 0,.slice none 0 0,.slice none 0 0,.slice none 0 0,.slice none 0 0,.int .i64 0,.int .i64 0,.int .i64 0,.int .i64 0] : List Value).toArray 27)):=⟨_,rfl⟩
 rw [← eW] at BT n1 B0
 have NB:=Lib.hid BT.blk
 have HRD:=Lib.hid BT.rd
 have NZ:=Lib.hid n1
 have B:=Lib.hid B0
 have O0 : Hid (Os W1 b 0 ⟨none,none,none,none,none,0,0,0,0,0⟩ none none W1):=Lib.hid (Os.start W1 b (bl_refl W1))
 clear h m b1 b2 BT n1 B0
 unfold bV at *
 go_enter Try.func112,Try.ntmps112
 go_wp2_with fail
 simp only [List.toArray] at eW
 rw [← eW]
 clear eW
 refine wp_region_W (last:=26) (k:=26) hmx rfl (fun HC0=>?_)
 refine wpAnyR_takeL (i:=0) (kw:=4) (v:=.pointer (some ⟨w.heap.size,0,none⟩)) (fun _=>bl_refl _) (fun p q=>bl_trans p q) rfl rfl (by kernel_rfl) (by kernel_rfl) (by kernel_rfl) (by kernel_rfl) (fun _ _ _ h=>h) HC0 (Or.inl ⟨by kernel_rfl,fun W' hI=>?_⟩) (fun HC1=>?_)
 ·exact .inl (by go_simp)
 refine wpAnyR_takeL (i:=1) (kw:=3) (v:=.slice L.a1 b.st.length L.c1) (fun _=>bl_refl _) (fun p q=>bl_trans p q) rfl rfl (by kernel_rfl) (by kernel_rfl) (by kernel_rfl) (by kernel_rfl) (fun _ _ _ h=>h) HC1 (Or.inl ⟨by kernel_rfl,fun W' hI=>?_⟩) (fun HC2=>?_)
 ·have hv:=(NB.out).below hI
  obtain ⟨z0,_⟩:=hv.cell 0 _ rfl
  exact .inl (by go_simp)
 refine wpAnyR_takeL (i:=3) (kw:=4) (v:=.pointer (some ⟨w.heap.size,1,none⟩)) (fun _=>bl_refl _) (fun p q=>bl_trans p q) rfl rfl (by kernel_rfl) (by kernel_rfl) (by kernel_rfl) (by kernel_rfl) (fun _ _ _ h=>h) HC2 (Or.inl ⟨by kernel_rfl,fun W' hI=>?_⟩) (fun HC3=>?_)
 ·exact .inl (by go_simp)
 refine wpAnyR_takeL (i:=4) (kw:=3) (v:=.slice L.a2 b.bt.length L.c2) (fun _=>bl_refl _) (fun p q=>bl_trans p q) rfl rfl (by kernel_rfl) (by kernel_rfl) (by kernel_rfl) (by kernel_rfl) (fun _ _ _ h=>h) HC3 (Or.inl ⟨by kernel_rfl,fun W' hI=>?_⟩) (fun HC4=>?_)
 ·have hv:=(NB.out).below hI
  obtain ⟨z1,_⟩:=hv.cell 1 _ rfl
  exact .inl (by go_simp)
 refine wpAnyR_takeL (i:=6) (kw:=4) (v:=.pointer (some ⟨w.heap.size,2,none⟩)) (fun _=>bl_refl _) (fun p q=>bl_trans p q) rfl rfl (by kernel_rfl) (by kernel_rfl) (by kernel_rfl) (by kernel_rfl) (fun _ _ _ h=>h) HC4 (Or.inl ⟨by kernel_rfl,fun W' hI=>?_⟩) (fun HC5=>?_)
 ·exact .inl (by go_simp)
 refine wpAnyR_takeL (i:=7) (kw:=3) (v:=.slice L.a3 b.pd.length L.c3) (fun _=>bl_refl _) (fun p q=>bl_trans p q) rfl rfl (by kernel_rfl) (by kernel_rfl) (by kernel_rfl) (by kernel_rfl) (fun _ _ _ h=>h) HC5 (Or.inl ⟨by kernel_rfl,fun W' hI=>?_⟩) (fun HC6=>?_)
 ·have hv:=(NB.out).below hI
  obtain ⟨z2,_⟩:=hv.cell 2 _ rfl
  exact .inl (by go_simp)
 refine wpAnyR_takeL (i:=10) (kw:=4) (v:=.pointer (some ⟨w.heap.size,3,none⟩)) (fun _=>bl_refl _) (fun p q=>bl_trans p q) rfl rfl (by kernel_rfl) (by kernel_rfl) (by kernel_rfl) (by kernel_rfl) (fun _ _ _ h=>h) HC6 (Or.inl ⟨by kernel_rfl,fun W' hI=>?_⟩) (fun HC7=>?_)
 ·exact .inl (by go_simp)
 refine wpAnyR_takeL (i:=11) (kw:=3) (v:=.slice L.a4 b.fo.length L.c4) (fun _=>bl_refl _) (fun p q=>bl_trans p q) rfl rfl (by kernel_rfl) (by kernel_rfl) (by kernel_rfl) (by kernel_rfl) (fun _ _ _ h=>h) HC7 (Or.inl ⟨by kernel_rfl,fun W' hI=>?_⟩) (fun HC8=>?_)
 ·have hv:=(NB.out).below hI
  obtain ⟨z3,_⟩:=hv.cell 3 _ rfl
  exact .inl (by go_simp)
 refine wpAnyR_takeL (i:=14) (kw:=4) (v:=.pointer (some ⟨w.heap.size,4,none⟩)) (fun _=>bl_refl _) (fun p q=>bl_trans p q) rfl rfl (by kernel_rfl) (by kernel_rfl) (by kernel_rfl) (by kernel_rfl) (fun _ _ _ h=>h) HC8 (Or.inl ⟨by kernel_rfl,fun W' hI=>?_⟩) (fun HC9=>?_)
 ·exact .inl (by go_simp)
 refine wpAnyR_takeL (i:=15) (kw:=3) (v:=.slice L.a5 b.ac.length L.c5) (fun _=>bl_refl _) (fun p q=>bl_trans p q) rfl rfl (by kernel_rfl) (by kernel_rfl) (by kernel_rfl) (by kernel_rfl) (fun _ _ _ h=>h) HC9 (Or.inl ⟨by kernel_rfl,fun W' hI=>?_⟩) (fun HC10=>?_)
 ·have hv:=(NB.out).below hI
  obtain ⟨z4,_⟩:=hv.cell 4 _ rfl
  exact .inl (by go_simp)
 refine wpAnyR_takeL (i:=17) (kw:=3) (v:=.pointer (some ⟨w.heap.size,5,none⟩)) (fun _=>bl_refl _) (fun p q=>bl_trans p q) rfl rfl (by kernel_rfl) (by kernel_rfl) (by kernel_rfl) (by kernel_rfl) (fun _ _ _ h=>h) HC10 (Or.inl ⟨by kernel_rfl,fun W' hI=>?_⟩) (fun HC11=>?_)
 ·exact .inl (by go_simp)
 refine wpAnyR_takeL (i:=18) (kw:=2) (v:=.int .i64 b.tu) (fun _=>bl_refl _) (fun p q=>bl_trans p q) rfl rfl (by kernel_rfl) (by kernel_rfl) (by kernel_rfl) (by kernel_rfl) (fun _ _ _ h=>h) HC11 (Or.inl ⟨by kernel_rfl,fun W' hI=>?_⟩) (fun HC12=>?_)
 ·have hv:=(NB.out).below hI
  obtain ⟨z5,_⟩:=hv.cell 5 _ rfl
  exact .inl (by go_simp)
 refine wpAnyR_takeL (i:=19) (kw:=3) (v:=.pointer (some ⟨w.heap.size,6,none⟩)) (fun _=>bl_refl _) (fun p q=>bl_trans p q) rfl rfl (by kernel_rfl) (by kernel_rfl) (by kernel_rfl) (by kernel_rfl) (fun _ _ _ h=>h) HC12 (Or.inl ⟨by kernel_rfl,fun W' hI=>?_⟩) (fun HC13=>?_)
 ·exact .inl (by go_simp)
 refine wpAnyR_takeL (i:=20) (kw:=2) (v:=.int .i64 b.un) (fun _=>bl_refl _) (fun p q=>bl_trans p q) rfl rfl (by kernel_rfl) (by kernel_rfl) (by kernel_rfl) (by kernel_rfl) (fun _ _ _ h=>h) HC13 (Or.inl ⟨by kernel_rfl,fun W' hI=>?_⟩) (fun HC14=>?_)
 ·have hv:=(NB.out).below hI
  obtain ⟨z6,_⟩:=hv.cell 6 _ rfl
  exact .inl (by go_simp)
 refine wpAnyR_takeL (i:=21) (kw:=3) (v:=.pointer (some ⟨w.heap.size,7,none⟩)) (fun _=>bl_refl _) (fun p q=>bl_trans p q) rfl rfl (by kernel_rfl) (by kernel_rfl) (by kernel_rfl) (by kernel_rfl) (fun _ _ _ h=>h) HC14 (Or.inl ⟨by kernel_rfl,fun W' hI=>?_⟩) (fun HC15=>?_)
 ·exact .inl (by go_simp)
 refine wpAnyR_takeL (i:=22) (kw:=2) (v:=.int .i64 b.ra) (fun _=>bl_refl _) (fun p q=>bl_trans p q) rfl rfl (by kernel_rfl) (by kernel_rfl) (by kernel_rfl) (by kernel_rfl) (fun _ _ _ h=>h) HC15 (Or.inl ⟨by kernel_rfl,fun W' hI=>?_⟩) (fun HC16=>?_)
 ·have hv:=(NB.out).below hI
  obtain ⟨z7,_⟩:=hv.cell 7 _ rfl
  exact .inl (by go_simp)
 refine wpAnyR_takeL (i:=23) (kw:=3) (v:=.pointer (some ⟨w.heap.size,8,none⟩)) (fun _=>bl_refl _) (fun p q=>bl_trans p q) rfl rfl (by kernel_rfl) (by kernel_rfl) (by kernel_rfl) (by kernel_rfl) (fun _ _ _ h=>h) HC16 (Or.inl ⟨by kernel_rfl,fun W' hI=>?_⟩) (fun HC17=>?_)
 ·exact .inl (by go_simp)
 refine wpAnyR_takeL (i:=24) (kw:=2) (v:=.int .i64 b.li) (fun _=>bl_refl _) (fun p q=>bl_trans p q) rfl rfl (by kernel_rfl) (by kernel_rfl) (by kernel_rfl) (by kernel_rfl) (fun _ _ _ h=>h) HC17 (Or.inl ⟨by kernel_rfl,fun W' hI=>?_⟩) (fun HC18=>?_)
 ·have hv:=(NB.out).below hI
  obtain ⟨z8,_⟩:=hv.cell 8 _ rfl
  exact .inl (by go_simp)
 refine wpAnyR_threeT HC18 (i:=2) (j:=9) (l:=13) (by kernel_rfl) rfl rfl rfl (by kernel_rfl) (by kernel_rfl) (by kernel_rfl) (fun _ hr=>bl_drewT hr) (fun w1a hr K hK=>?_) (fun w1a hr K hK=>?_) (fun w1a hr K hK=>?_)
 ·have OB:=Lib.hid (O0.out.below (bl_drewT hr))
  clear hr O0
  have KO:=Lib.hid (own_any L.a1 L.c1 b.st w1a (HRD.out.below OB.out.bx).r1 (by omega))
  go_simp
  go_wp2_with (go_at_call 154;refine KO.out.mono ?_;rintro e w1b ⟨A1,k1,rfl,ho,hb⟩;have O1:=Lib.hid (OB.out.call1 ho hb);clear ho hb OB KO)
  intro HT1
  refine wpAnyR_threeT HT1 (i:=5) (j:=9) (l:=13) (by kernel_rfl) rfl rfl rfl (by kernel_rfl) (by kernel_rfl) (by kernel_rfl) (fun _ hr=>bl_trans O1.out.bx hr) (fun w2a hr K hK=>?_) (fun w2a hr K hK=>?_) (fun w2a hr K hK=>?_)
  ·have OB:=Lib.hid (O1.out.below (hr))
   clear hr O1
   have KO:=Lib.hid (own_any L.a2 L.c2 b.bt w2a (HRD.out.below OB.out.bx).r2 (by omega))
   go_simp
   go_wp2_with (go_at_call 154;refine KO.out.mono ?_;rintro e w2b ⟨A2,k2,rfl,ho,hb⟩;have O2:=Lib.hid (OB.out.call2 ho hb);clear ho hb OB KO)
   intro HT2
   refine wpAnyR_threeT HT2 (i:=8) (j:=9) (l:=13) (by kernel_rfl) rfl rfl rfl (by kernel_rfl) (by kernel_rfl) (by kernel_rfl) (fun _ hr=>bl_trans O2.out.bx hr) (fun w3a hr K hK=>?_) (fun w3a hr K hK=>?_) (fun w3a hr K hK=>?_)
   ·have OB:=Lib.hid (O2.out.below (hr))
    clear hr O2
    have KO:=Lib.hid (own_any L.a3 L.c3 b.pd w3a (HRD.out.below OB.out.bx).r3 (by omega))
    go_simp
    go_wp2_with (go_at_call 154;refine KO.out.mono ?_;rintro e w3b ⟨A3,k3,rfl,ho,hb⟩;have O3:=Lib.hid (OB.out.call3 ho hb);clear ho hb OB KO)
    intro HT3
    refine wpAnyR_twoU HT3 (i:=9) (j:=13) (by kernel_rfl) rfl rfl (by kernel_rfl) (by kernel_rfl) (fun _ hr=>bl_trans O3.out.bx hr) (fun w4a hr K hK=>?_) (fun w4a hr K hK=>?_)
    ·have OB:=Lib.hid (O3.out.below (hr))
     clear hr O3
     go_simp
     refine hK _ _ (fun HT4=>?_)
     clear hK K
     have O4:=Lib.hid (OB.out.mkP (by omega))
     clear OB
     obtain ⟨w4b,eM⟩ : ∃ wM,wM = w4a.alloc (.cells #[] 4):=⟨_,rfl⟩
     rw [← eM] at O4 ⊢
     clear eM
     generalize w4a.heap.size = gp at *
     refine wpAnyR_twoU HT4 (i:=12) (j:=13) (by kernel_rfl) rfl rfl (by kernel_rfl) (by kernel_rfl) (fun _ hr=>bl_trans O4.out.bx hr) (fun w5a hr K hK=>?_) (fun w5a hr K hK=>?_)
     ·have OB:=Lib.hid (O4.out.below (hr))
      clear hr O4
      try simp only [Act.put,List.setIfInBounds_toArray,List.set_cons_succ,List.set_cons_zero]
      refine wp_glueB (.tmp 12) (.tmp 14) rfl W1.heap.size _ [] b.fo L.a4 L.c4 rfl (OB.out.p gp rfl (by omega)) rfl (HRD.out.below OB.out.bx).r4 (by simp;omega) OB.out.bx.size ?_
      intro A4 k4 ws w5b e hn hg hd
      refine hK _ _ (fun HT5=>?_)
      clear hK K
      have O5:=Lib.hid (OB.out.app4 e hn hg hd)
      obtain rfl : ws = b.fo:=e
      clear hn hg hd OB
      refine wpAnyR_oneL HT5 (i:=13) (by kernel_rfl) rfl (by kernel_rfl) (fun w6a hr=>⟨bl_trans O5.out.bx hr,?_⟩)
      intro K hK
      have OB:=Lib.hid (O5.out.below (hr))
      clear hr O5
      go_simp
      refine hK _ _ (fun HT6=>?_)
      clear hK K
      have O6:=Lib.hid (OB.out.mkQ (by omega))
      clear OB
      obtain ⟨w6b,eM⟩ : ∃ wM,wM = w6a.alloc (.cells #[] 4):=⟨_,rfl⟩
      rw [← eM] at O6 ⊢
      clear eM
      generalize w6a.heap.size = gq at *
      refine wpAnyR_oneL HT6 (i:=16) (by kernel_rfl) rfl (by kernel_rfl) (fun w7a hr=>⟨bl_trans O6.out.bx hr,?_⟩)
      intro K hK
      have OB:=Lib.hid (O6.out.below (hr))
      clear hr O6
      try simp only [Act.put,List.setIfInBounds_toArray,List.set_cons_succ,List.set_cons_zero]
      refine wp_glueB (.tmp 16) (.tmp 18) rfl W1.heap.size _ [] b.ac L.a5 L.c5 rfl (OB.out.q gq rfl (by omega)) rfl (HRD.out.below OB.out.bx).r5 (by simp;omega) OB.out.bx.size ?_
      intro A5 k5 ws w7b e hn hg hd
      refine hK _ _ (fun HT7=>?_)
      clear hK K
      have O7:=Lib.hid (OB.out.app5 e hn hg hd)
      obtain rfl : ws = b.ac:=e
      clear hn hg hd OB
      refine wpAnyR_takeL (i:=25) (kw:=1) (v:=.agg #[.slice A1 b.st.length k1,.slice A2 b.bt.length k2,.slice A3 b.pd.length k3,.slice A4 b.fo.length k4,.slice A5 b.ac.length k5,.int .i64 b.tu,.int .i64 b.un,.int .i64 b.ra,.int .i64 b.li]) (fun _=>bl_refl _) (fun p q=>bl_trans p q) rfl rfl (by kernel_rfl) (by kernel_rfl) (by kernel_rfl) (by kernel_rfl) (fun _ _ _ h=>h) HT7 (Or.inl ⟨by kernel_rfl,fun W' hI=>?_⟩) (fun HCL=>?_)
      ·exact .inl (by go_simp)
      refine wpAnyR_lastL (by kernel_rfl) (by kernel_rfl) rfl (by kernel_rfl) (fun wR hrR=>⟨bl_trans O7.out.bx hrR,?_⟩)
      intro K hK
      have OR:=Lib.hid (O7.out.below hrR)
      have NZR:=Lib.hid (NZ.out.below OR.out.bx)
      have BR:=Lib.hid (bl_trans B.out OR.out.bx)
      clear hrR O7
      try simp only [Act.put,List.setIfInBounds_toArray,List.set_cons_succ,List.set_cons_zero]
      refine wp_store_blk 27 9 (.tmp 2) (.tmp 28) rfl iB (w.heap.size + 1) rfl [.slice A1 b.st.length k1,.slice A2 b.bt.length k2,.slice A3 b.pd.length k3,.slice A4 b.fo.length k4,.slice A5 b.ac.length k5,.int .i64 b.tu,.int .i64 b.un,.int .i64 b.ra,.int .i64 b.li] rfl rfl (by simp [Value.oneCell']) _ NZR.out rfl ?_
      intro w9 k9 g9
      refine hK _ _ ?_
      clear hK K
      go_wp2_with fail
      obtain ⟨z0,_⟩:=k9.cell 0 _ rfl
      obtain ⟨z1,_⟩:=k9.cell 1 _ rfl
      obtain ⟨z2,_⟩:=k9.cell 2 _ rfl
      obtain ⟨z3,_⟩:=k9.cell 3 _ rfl
      obtain ⟨z4,_⟩:=k9.cell 4 _ rfl
      obtain ⟨z5,_⟩:=k9.cell 5 _ rfl
      obtain ⟨z6,_⟩:=k9.cell 6 _ rfl
      obtain ⟨z7,_⟩:=k9.cell 7 _ rfl
      obtain ⟨z8,_⟩:=k9.cell 8 _ rfl
      exact bodyPost_ret (v:=.agg #[.slice A1 b.st.length k1,.slice A2 b.bt.length k2,.slice A3 b.pd.length k3,.slice A4 b.fo.length k4,.slice A5 b.ac.length k5,.int .i64 b.tu,.int .i64 b.un,.int .i64 b.ra,.int .i64 b.li]) (by simp [results,Try.results112,go_sem,z0,z1,z2,z3,z4,z5,z6,z7,z8]) rfl ⟨_,rfl,(OR.out.done.grownB' g9 (by have:=B.out.size;have:=NZ.out.lt;omega)).less (by have:=B.out.size;have:=NZ.out.lt;omega),below_grown1 BR.out g9 (by omega)⟩
     ·have OB:=Lib.hid (O4.out.below (hr))
      clear hr O4
      go_simp
      refine hK _ _ (fun HT5=>?_)
      clear hK K
      have O5:=Lib.hid (OB.out.mkQ (by omega))
      clear OB
      obtain ⟨w5b,eM⟩ : ∃ wM,wM = w5a.alloc (.cells #[] 4):=⟨_,rfl⟩
      rw [← eM] at O5 ⊢
      clear eM
      generalize w5a.heap.size = gq at *
      refine wpAnyR_oneL HT5 (i:=12) (by kernel_rfl) rfl (by kernel_rfl) (fun w6a hr=>⟨bl_trans O5.out.bx hr,?_⟩)
      intro K hK
      have OB:=Lib.hid (O5.out.below (hr))
      clear hr O5
      try simp only [Act.put,List.setIfInBounds_toArray,List.set_cons_succ,List.set_cons_zero]
      refine wp_glueB (.tmp 12) (.tmp 14) rfl W1.heap.size _ [] b.fo L.a4 L.c4 rfl (OB.out.p gp rfl (by omega)) rfl (HRD.out.below OB.out.bx).r4 (by simp;omega) OB.out.bx.size ?_
      intro A4 k4 ws w6b e hn hg hd
      refine hK _ _ (fun HT6=>?_)
      clear hK K
      have O6:=Lib.hid (OB.out.app4 e hn hg hd)
      obtain rfl : ws = b.fo:=e
      clear hn hg hd OB
      refine wpAnyR_oneL HT6 (i:=16) (by kernel_rfl) rfl (by kernel_rfl) (fun w7a hr=>⟨bl_trans O6.out.bx hr,?_⟩)
      intro K hK
      have OB:=Lib.hid (O6.out.below (hr))
      clear hr O6
      try simp only [Act.put,List.setIfInBounds_toArray,List.set_cons_succ,List.set_cons_zero]
      refine wp_glueB (.tmp 16) (.tmp 18) rfl W1.heap.size _ [] b.ac L.a5 L.c5 rfl (OB.out.q gq rfl (by omega)) rfl (HRD.out.below OB.out.bx).r5 (by simp;omega) OB.out.bx.size ?_
      intro A5 k5 ws w7b e hn hg hd
      refine hK _ _ (fun HT7=>?_)
      clear hK K
      have O7:=Lib.hid (OB.out.app5 e hn hg hd)
      obtain rfl : ws = b.ac:=e
      clear hn hg hd OB
      refine wpAnyR_takeL (i:=25) (kw:=1) (v:=.agg #[.slice A1 b.st.length k1,.slice A2 b.bt.length k2,.slice A3 b.pd.length k3,.slice A4 b.fo.length k4,.slice A5 b.ac.length k5,.int .i64 b.tu,.int .i64 b.un,.int .i64 b.ra,.int .i64 b.li]) (fun _=>bl_refl _) (fun p q=>bl_trans p q) rfl rfl (by kernel_rfl) (by kernel_rfl) (by kernel_rfl) (by kernel_rfl) (fun _ _ _ h=>h) HT7 (Or.inl ⟨by kernel_rfl,fun W' hI=>?_⟩) (fun HCL=>?_)
      ·exact .inl (by go_simp)
      refine wpAnyR_lastL (by kernel_rfl) (by kernel_rfl) rfl (by kernel_rfl) (fun wR hrR=>⟨bl_trans O7.out.bx hrR,?_⟩)
      intro K hK
      have OR:=Lib.hid (O7.out.below hrR)
      have NZR:=Lib.hid (NZ.out.below OR.out.bx)
      have BR:=Lib.hid (bl_trans B.out OR.out.bx)
      clear hrR O7
      try simp only [Act.put,List.setIfInBounds_toArray,List.set_cons_succ,List.set_cons_zero]
      refine wp_store_blk 27 9 (.tmp 2) (.tmp 28) rfl iB (w.heap.size + 1) rfl [.slice A1 b.st.length k1,.slice A2 b.bt.length k2,.slice A3 b.pd.length k3,.slice A4 b.fo.length k4,.slice A5 b.ac.length k5,.int .i64 b.tu,.int .i64 b.un,.int .i64 b.ra,.int .i64 b.li] rfl rfl (by simp [Value.oneCell']) _ NZR.out rfl ?_
      intro w9 k9 g9
      refine hK _ _ ?_
      clear hK K
      go_wp2_with fail
      obtain ⟨z0,_⟩:=k9.cell 0 _ rfl
      obtain ⟨z1,_⟩:=k9.cell 1 _ rfl
      obtain ⟨z2,_⟩:=k9.cell 2 _ rfl
      obtain ⟨z3,_⟩:=k9.cell 3 _ rfl
      obtain ⟨z4,_⟩:=k9.cell 4 _ rfl
      obtain ⟨z5,_⟩:=k9.cell 5 _ rfl
      obtain ⟨z6,_⟩:=k9.cell 6 _ rfl
      obtain ⟨z7,_⟩:=k9.cell 7 _ rfl
      obtain ⟨z8,_⟩:=k9.cell 8 _ rfl
      exact bodyPost_ret (v:=.agg #[.slice A1 b.st.length k1,.slice A2 b.bt.length k2,.slice A3 b.pd.length k3,.slice A4 b.fo.length k4,.slice A5 b.ac.length k5,.int .i64 b.tu,.int .i64 b.un,.int .i64 b.ra,.int .i64 b.li]) (by simp [results,Try.results112,go_sem,z0,z1,z2,z3,z4,z5,z6,z7,z8]) rfl ⟨_,rfl,(OR.out.done.grownB' g9 (by have:=B.out.size;have:=NZ.out.lt;omega)).less (by have:=B.out.size;have:=NZ.out.lt;omega),below_grown1 BR.out g9 (by omega)⟩
    ·have OB:=Lib.hid (O3.out.below (hr))
     clear hr O3
     go_simp
     refine hK _ _ (fun HT4=>?_)
     clear hK K
     have O4:=Lib.hid (OB.out.mkQ (by omega))
     clear OB
     obtain ⟨w4b,eM⟩ : ∃ wM,wM = w4a.alloc (.cells #[] 4):=⟨_,rfl⟩
     rw [← eM] at O4 ⊢
     clear eM
     generalize w4a.heap.size = gq at *
     refine wpAnyR_oneL HT4 (i:=9) (by kernel_rfl) rfl (by kernel_rfl) (fun w5a hr=>⟨bl_trans O4.out.bx hr,?_⟩)
     intro K hK
     have OB:=Lib.hid (O4.out.below (hr))
     clear hr O4
     go_simp
     refine hK _ _ (fun HT5=>?_)
     clear hK K
     have O5:=Lib.hid (OB.out.mkP (by omega))
     clear OB
     obtain ⟨w5b,eM⟩ : ∃ wM,wM = w5a.alloc (.cells #[] 4):=⟨_,rfl⟩
     rw [← eM] at O5 ⊢
     clear eM
     generalize w5a.heap.size = gp at *
     refine wpAnyR_oneL HT5 (i:=12) (by kernel_rfl) rfl (by kernel_rfl) (fun w6a hr=>⟨bl_trans O5.out.bx hr,?_⟩)
     intro K hK
     have OB:=Lib.hid (O5.out.below (hr))
     clear hr O5
     try simp only [Act.put,List.setIfInBounds_toArray,List.set_cons_succ,List.set_cons_zero]
     refine wp_glueB (.tmp 12) (.tmp 14) rfl W1.heap.size _ [] b.fo L.a4 L.c4 rfl (OB.out.p gp rfl (by omega)) rfl (HRD.out.below OB.out.bx).r4 (by simp;omega) OB.out.bx.size ?_
     intro A4 k4 ws w6b e hn hg hd
     refine hK _ _ (fun HT6=>?_)
     clear hK K
     have O6:=Lib.hid (OB.out.app4 e hn hg hd)
     obtain rfl : ws = b.fo:=e
     clear hn hg hd OB
     refine wpAnyR_oneL HT6 (i:=16) (by kernel_rfl) rfl (by kernel_rfl) (fun w7a hr=>⟨bl_trans O6.out.bx hr,?_⟩)
     intro K hK
     have OB:=Lib.hid (O6.out.below (hr))
     clear hr O6
     try simp only [Act.put,List.setIfInBounds_toArray,List.set_cons_succ,List.set_cons_zero]
     refine wp_glueB (.tmp 16) (.tmp 18) rfl W1.heap.size _ [] b.ac L.a5 L.c5 rfl (OB.out.q gq rfl (by omega)) rfl (HRD.out.below OB.out.bx).r5 (by simp;omega) OB.out.bx.size ?_
     intro A5 k5 ws w7b e hn hg hd
     refine hK _ _ (fun HT7=>?_)
     clear hK K
     have O7:=Lib.hid (OB.out.app5 e hn hg hd)
     obtain rfl : ws = b.ac:=e
     clear hn hg hd OB
     refine wpAnyR_takeL (i:=25) (kw:=1) (v:=.agg #[.slice A1 b.st.length k1,.slice A2 b.bt.length k2,.slice A3 b.pd.length k3,.slice A4 b.fo.length k4,.slice A5 b.ac.length k5,.int .i64 b.tu,.int .i64 b.un,.int .i64 b.ra,.int .i64 b.li]) (fun _=>bl_refl _) (fun p q=>bl_trans p q) rfl rfl (by kernel_rfl) (by kernel_rfl) (by kernel_rfl) (by kernel_rfl) (fun _ _ _ h=>h) HT7 (Or.inl ⟨by kernel_rfl,fun W' hI=>?_⟩) (fun HCL=>?_)
     ·exact .inl (by go_simp)
     refine wpAnyR_lastL (by kernel_rfl) (by kernel_rfl) rfl (by kernel_rfl) (fun wR hrR=>⟨bl_trans O7.out.bx hrR,?_⟩)
     intro K hK
     have OR:=Lib.hid (O7.out.below hrR)
     have NZR:=Lib.hid (NZ.out.below OR.out.bx)
     have BR:=Lib.hid (bl_trans B.out OR.out.bx)
     clear hrR O7
     try simp only [Act.put,List.setIfInBounds_toArray,List.set_cons_succ,List.set_cons_zero]
     refine wp_store_blk 27 9 (.tmp 2) (.tmp 28) rfl iB (w.heap.size + 1) rfl [.slice A1 b.st.length k1,.slice A2 b.bt.length k2,.slice A3 b.pd.length k3,.slice A4 b.fo.length k4,.slice A5 b.ac.length k5,.int .i64 b.tu,.int .i64 b.un,.int .i64 b.ra,.int .i64 b.li] rfl rfl (by simp [Value.oneCell']) _ NZR.out rfl ?_
     intro w9 k9 g9
     refine hK _ _ ?_
     clear hK K
     go_wp2_with fail
     obtain ⟨z0,_⟩:=k9.cell 0 _ rfl
     obtain ⟨z1,_⟩:=k9.cell 1 _ rfl
     obtain ⟨z2,_⟩:=k9.cell 2 _ rfl
     obtain ⟨z3,_⟩:=k9.cell 3 _ rfl
     obtain ⟨z4,_⟩:=k9.cell 4 _ rfl
     obtain ⟨z5,_⟩:=k9.cell 5 _ rfl
     obtain ⟨z6,_⟩:=k9.cell 6 _ rfl
     obtain ⟨z7,_⟩:=k9.cell 7 _ rfl
     obtain ⟨z8,_⟩:=k9.cell 8 _ rfl
     exact bodyPost_ret (v:=.agg #[.slice A1 b.st.length k1,.slice A2 b.bt.length k2,.slice A3 b.pd.length k3,.slice A4 b.fo.length k4,.slice A5 b.ac.length k5,.int .i64 b.tu,.int .i64 b.un,.int .i64 b.ra,.int .i64 b.li]) (by simp [results,Try.results112,go_sem,z0,z1,z2,z3,z4,z5,z6,z7,z8]) rfl ⟨_,rfl,(OR.out.done.grownB' g9 (by have:=B.out.size;have:=NZ.out.lt;omega)).less (by have:=B.out.size;have:=NZ.out.lt;omega),below_grown1 BR.out g9 (by omega)⟩
   ·have OB:=Lib.hid (O2.out.below (hr))
    clear hr O2
    go_simp
    refine hK _ _ (fun HT3=>?_)
    clear hK K
    have O3:=Lib.hid (OB.out.mkP (by omega))
    clear OB
    obtain ⟨w3b,eM⟩ : ∃ wM,wM = w3a.alloc (.cells #[] 4):=⟨_,rfl⟩
    rw [← eM] at O3 ⊢
    clear eM
    generalize w3a.heap.size = gp at *
    refine wpAnyR_twoU HT3 (i:=8) (j:=13) (by kernel_rfl) rfl rfl (by kernel_rfl) (by kernel_rfl) (fun _ hr=>bl_trans O3.out.bx hr) (fun w4a hr K hK=>?_) (fun w4a hr K hK=>?_)
    ·have OB:=Lib.hid (O3.out.below (hr))
     clear hr O3
     have KO:=Lib.hid (own_any L.a3 L.c3 b.pd w4a (HRD.out.below OB.out.bx).r3 (by omega))
     go_simp
     go_wp2_with (go_at_call 154;refine KO.out.mono ?_;rintro e w4b ⟨A3,k3,rfl,ho,hb⟩;have O4:=Lib.hid (OB.out.call3 ho hb);clear ho hb OB KO)
     intro HT4
     refine wpAnyR_twoU HT4 (i:=12) (j:=13) (by kernel_rfl) rfl rfl (by kernel_rfl) (by kernel_rfl) (fun _ hr=>bl_trans O4.out.bx hr) (fun w5a hr K hK=>?_) (fun w5a hr K hK=>?_)
     ·have OB:=Lib.hid (O4.out.below (hr))
      clear hr O4
      try simp only [Act.put,List.setIfInBounds_toArray,List.set_cons_succ,List.set_cons_zero]
      refine wp_glueB (.tmp 12) (.tmp 14) rfl W1.heap.size _ [] b.fo L.a4 L.c4 rfl (OB.out.p gp rfl (by omega)) rfl (HRD.out.below OB.out.bx).r4 (by simp;omega) OB.out.bx.size ?_
      intro A4 k4 ws w5b e hn hg hd
      refine hK _ _ (fun HT5=>?_)
      clear hK K
      have O5:=Lib.hid (OB.out.app4 e hn hg hd)
      obtain rfl : ws = b.fo:=e
      clear hn hg hd OB
      refine wpAnyR_oneL HT5 (i:=13) (by kernel_rfl) rfl (by kernel_rfl) (fun w6a hr=>⟨bl_trans O5.out.bx hr,?_⟩)
      intro K hK
      have OB:=Lib.hid (O5.out.below (hr))
      clear hr O5
      go_simp
      refine hK _ _ (fun HT6=>?_)
      clear hK K
      have O6:=Lib.hid (OB.out.mkQ (by omega))
      clear OB
      obtain ⟨w6b,eM⟩ : ∃ wM,wM = w6a.alloc (.cells #[] 4):=⟨_,rfl⟩
      rw [← eM] at O6 ⊢
      clear eM
      generalize w6a.heap.size = gq at *
      refine wpAnyR_oneL HT6 (i:=16) (by kernel_rfl) rfl (by kernel_rfl) (fun w7a hr=>⟨bl_trans O6.out.bx hr,?_⟩)
      intro K hK
      have OB:=Lib.hid (O6.out.below (hr))
      clear hr O6
      try simp only [Act.put,List.setIfInBounds_toArray,List.set_cons_succ,List.set_cons_zero]
      refine wp_glueB (.tmp 16) (.tmp 18) rfl W1.heap.size _ [] b.ac L.a5 L.c5 rfl (OB.out.q gq rfl (by omega)) rfl (HRD.out.below OB.out.bx).r5 (by simp;omega) OB.out.bx.size ?_
      intro A5 k5 ws w7b e hn hg hd
      refine hK _ _ (fun HT7=>?_)
      clear hK K
      have O7:=Lib.hid (OB.out.app5 e hn hg hd)
      obtain rfl : ws = b.ac:=e
      clear hn hg hd OB
      refine wpAnyR_takeL (i:=25) (kw:=1) (v:=.agg #[.slice A1 b.st.length k1,.slice A2 b.bt.length k2,.slice A3 b.pd.length k3,.slice A4 b.fo.length k4,.slice A5 b.ac.length k5,.int .i64 b.tu,.int .i64 b.un,.int .i64 b.ra,.int .i64 b.li]) (fun _=>bl_refl _) (fun p q=>bl_trans p q) rfl rfl (by kernel_rfl) (by kernel_rfl) (by kernel_rfl) (by kernel_rfl) (fun _ _ _ h=>h) HT7 (Or.inl ⟨by kernel_rfl,fun W' hI=>?_⟩) (fun HCL=>?_)
      ·exact .inl (by go_simp)
      refine wpAnyR_lastL (by kernel_rfl) (by kernel_rfl) rfl (by kernel_rfl) (fun wR hrR=>⟨bl_trans O7.out.bx hrR,?_⟩)
      intro K hK
      have OR:=Lib.hid (O7.out.below hrR)
      have NZR:=Lib.hid (NZ.out.below OR.out.bx)
      have BR:=Lib.hid (bl_trans B.out OR.out.bx)
      clear hrR O7
      try simp only [Act.put,List.setIfInBounds_toArray,List.set_cons_succ,List.set_cons_zero]
      refine wp_store_blk 27 9 (.tmp 2) (.tmp 28) rfl iB (w.heap.size + 1) rfl [.slice A1 b.st.length k1,.slice A2 b.bt.length k2,.slice A3 b.pd.length k3,.slice A4 b.fo.length k4,.slice A5 b.ac.length k5,.int .i64 b.tu,.int .i64 b.un,.int .i64 b.ra,.int .i64 b.li] rfl rfl (by simp [Value.oneCell']) _ NZR.out rfl ?_
      intro w9 k9 g9
      refine hK _ _ ?_
      clear hK K
      go_wp2_with fail
      obtain ⟨z0,_⟩:=k9.cell 0 _ rfl
      obtain ⟨z1,_⟩:=k9.cell 1 _ rfl
      obtain ⟨z2,_⟩:=k9.cell 2 _ rfl
      obtain ⟨z3,_⟩:=k9.cell 3 _ rfl
      obtain ⟨z4,_⟩:=k9.cell 4 _ rfl
      obtain ⟨z5,_⟩:=k9.cell 5 _ rfl
      obtain ⟨z6,_⟩:=k9.cell 6 _ rfl
      obtain ⟨z7,_⟩:=k9.cell 7 _ rfl
      obtain ⟨z8,_⟩:=k9.cell 8 _ rfl
      exact bodyPost_ret (v:=.agg #[.slice A1 b.st.length k1,.slice A2 b.bt.length k2,.slice A3 b.pd.length k3,.slice A4 b.fo.length k4,.slice A5 b.ac.length k5,.int .i64 b.tu,.int .i64 b.un,.int .i64 b.ra,.int .i64 b.li]) (by simp [results,Try.results112,go_sem,z0,z1,z2,z3,z4,z5,z6,z7,z8]) rfl ⟨_,rfl,(OR.out.done.grownB' g9 (by have:=B.out.size;have:=NZ.out.lt;omega)).less (by have:=B.out.size;have:=NZ.out.lt;omega),below_grown1 BR.out g9 (by omega)⟩
     ·have OB:=Lib.hid (O4.out.below (hr))
      clear hr O4
      go_simp
      refine hK _ _ (fun HT5=>?_)
      clear hK K
      have O5:=Lib.hid (OB.out.mkQ (by omega))
      clear OB
      obtain ⟨w5b,eM⟩ : ∃ wM,wM = w5a.alloc (.cells #[] 4):=⟨_,rfl⟩
      rw [← eM] at O5 ⊢
      clear eM
      generalize w5a.heap.size = gq at *
      refine wpAnyR_oneL HT5 (i:=12) (by kernel_rfl) rfl (by kernel_rfl) (fun w6a hr=>⟨bl_trans O5.out.bx hr,?_⟩)
      intro K hK
      have OB:=Lib.hid (O5.out.below (hr))
      clear hr O5
      try simp only [Act.put,List.setIfInBounds_toArray,List.set_cons_succ,List.set_cons_zero]
      refine wp_glueB (.tmp 12) (.tmp 14) rfl W1.heap.size _ [] b.fo L.a4 L.c4 rfl (OB.out.p gp rfl (by omega)) rfl (HRD.out.below OB.out.bx).r4 (by simp;omega) OB.out.bx.size ?_
      intro A4 k4 ws w6b e hn hg hd
      refine hK _ _ (fun HT6=>?_)
      clear hK K
      have O6:=Lib.hid (OB.out.app4 e hn hg hd)
      obtain rfl : ws = b.fo:=e
      clear hn hg hd OB
      refine wpAnyR_oneL HT6 (i:=16) (by kernel_rfl) rfl (by kernel_rfl) (fun w7a hr=>⟨bl_trans O6.out.bx hr,?_⟩)
      intro K hK
      have OB:=Lib.hid (O6.out.below (hr))
      clear hr O6
      try simp only [Act.put,List.setIfInBounds_toArray,List.set_cons_succ,List.set_cons_zero]
      refine wp_glueB (.tmp 16) (.tmp 18) rfl W1.heap.size _ [] b.ac L.a5 L.c5 rfl (OB.out.q gq rfl (by omega)) rfl (HRD.out.below OB.out.bx).r5 (by simp;omega) OB.out.bx.size ?_
      intro A5 k5 ws w7b e hn hg hd
      refine hK _ _ (fun HT7=>?_)
      clear hK K
      have O7:=Lib.hid (OB.out.app5 e hn hg hd)
      obtain rfl : ws = b.ac:=e
      clear hn hg hd OB
      refine wpAnyR_takeL (i:=25) (kw:=1) (v:=.agg #[.slice A1 b.st.length k1,.slice A2 b.bt.length k2,.slice A3 b.pd.length k3,.slice A4 b.fo.length k4,.slice A5 b.ac.length k5,.int .i64 b.tu,.int .i64 b.un,.int .i64 b.ra,.int .i64 b.li]) (fun _=>bl_refl _) (fun p q=>bl_trans p q) rfl rfl (by kernel_rfl) (by kernel_rfl) (by kernel_rfl) (by kernel_rfl) (fun _ _ _ h=>h) HT7 (Or.inl ⟨by kernel_rfl,fun W' hI=>?_⟩) (fun HCL=>?_)
      ·exact .inl (by go_simp)
      refine wpAnyR_lastL (by kernel_rfl) (by kernel_rfl) rfl (by kernel_rfl) (fun wR hrR=>⟨bl_trans O7.out.bx hrR,?_⟩)
      intro K hK
      have OR:=Lib.hid (O7.out.below hrR)
      have NZR:=Lib.hid (NZ.out.below OR.out.bx)
      have BR:=Lib.hid (bl_trans B.out OR.out.bx)
      clear hrR O7
      try simp only [Act.put,List.setIfInBounds_toArray,List.set_cons_succ,List.set_cons_zero]
      refine wp_store_blk 27 9 (.tmp 2) (.tmp 28) rfl iB (w.heap.size + 1) rfl [.slice A1 b.st.length k1,.slice A2 b.bt.length k2,.slice A3 b.pd.length k3,.slice A4 b.fo.length k4,.slice A5 b.ac.length k5,.int .i64 b.tu,.int .i64 b.un,.int .i64 b.ra,.int .i64 b.li] rfl rfl (by simp [Value.oneCell']) _ NZR.out rfl ?_
      intro w9 k9 g9
      refine hK _ _ ?_
      clear hK K
      go_wp2_with fail
      obtain ⟨z0,_⟩:=k9.cell 0 _ rfl
      obtain ⟨z1,_⟩:=k9.cell 1 _ rfl
      obtain ⟨z2,_⟩:=k9.cell 2 _ rfl
      obtain ⟨z3,_⟩:=k9.cell 3 _ rfl
      obtain ⟨z4,_⟩:=k9.cell 4 _ rfl
      obtain ⟨z5,_⟩:=k9.cell 5 _ rfl
      obtain ⟨z6,_⟩:=k9.cell 6 _ rfl
      obtain ⟨z7,_⟩:=k9.cell 7 _ rfl
      obtain ⟨z8,_⟩:=k9.cell 8 _ rfl
      exact bodyPost_ret (v:=.agg #[.slice A1 b.st.length k1,.slice A2 b.bt.length k2,.slice A3 b.pd.length k3,.slice A4 b.fo.length k4,.slice A5 b.ac.length k5,.int .i64 b.tu,.int .i64 b.un,.int .i64 b.ra,.int .i64 b.li]) (by simp [results,Try.results112,go_sem,z0,z1,z2,z3,z4,z5,z6,z7,z8]) rfl ⟨_,rfl,(OR.out.done.grownB' g9 (by have:=B.out.size;have:=NZ.out.lt;omega)).less (by have:=B.out.size;have:=NZ.out.lt;omega),below_grown1 BR.out g9 (by omega)⟩
    ·have OB:=Lib.hid (O3.out.below (hr))
     clear hr O3
     go_simp
     refine hK _ _ (fun HT4=>?_)
     clear hK K
     have O4:=Lib.hid (OB.out.mkQ (by omega))
     clear OB
     obtain ⟨w4b,eM⟩ : ∃ wM,wM = w4a.alloc (.cells #[] 4):=⟨_,rfl⟩
     rw [← eM] at O4 ⊢
     clear eM
     generalize w4a.heap.size = gq at *
     refine wpAnyR_oneL HT4 (i:=8) (by kernel_rfl) rfl (by kernel_rfl) (fun w5a hr=>⟨bl_trans O4.out.bx hr,?_⟩)
     intro K hK
     have OB:=Lib.hid (O4.out.below (hr))
     clear hr O4
     have KO:=Lib.hid (own_any L.a3 L.c3 b.pd w5a (HRD.out.below OB.out.bx).r3 (by omega))
     go_simp
     go_wp2_with (go_at_call 154;refine KO.out.mono ?_;rintro e w5b ⟨A3,k3,rfl,ho,hb⟩;have O5:=Lib.hid (OB.out.call3 ho hb);clear ho hb OB KO)
     intro HT5
     refine wpAnyR_oneL HT5 (i:=12) (by kernel_rfl) rfl (by kernel_rfl) (fun w6a hr=>⟨bl_trans O5.out.bx hr,?_⟩)
     intro K hK
     have OB:=Lib.hid (O5.out.below (hr))
     clear hr O5
     try simp only [Act.put,List.setIfInBounds_toArray,List.set_cons_succ,List.set_cons_zero]
     refine wp_glueB (.tmp 12) (.tmp 14) rfl W1.heap.size _ [] b.fo L.a4 L.c4 rfl (OB.out.p gp rfl (by omega)) rfl (HRD.out.below OB.out.bx).r4 (by simp;omega) OB.out.bx.size ?_
     intro A4 k4 ws w6b e hn hg hd
     refine hK _ _ (fun HT6=>?_)
     clear hK K
     have O6:=Lib.hid (OB.out.app4 e hn hg hd)
     obtain rfl : ws = b.fo:=e
     clear hn hg hd OB
     refine wpAnyR_oneL HT6 (i:=16) (by kernel_rfl) rfl (by kernel_rfl) (fun w7a hr=>⟨bl_trans O6.out.bx hr,?_⟩)
     intro K hK
     have OB:=Lib.hid (O6.out.below (hr))
     clear hr O6
     try simp only [Act.put,List.setIfInBounds_toArray,List.set_cons_succ,List.set_cons_zero]
     refine wp_glueB (.tmp 16) (.tmp 18) rfl W1.heap.size _ [] b.ac L.a5 L.c5 rfl (OB.out.q gq rfl (by omega)) rfl (HRD.out.below OB.out.bx).r5 (by simp;omega) OB.out.bx.size ?_
     intro A5 k5 ws w7b e hn hg hd
     refine hK _ _ (fun HT7=>?_)
     clear hK K
     have O7:=Lib.hid (OB.out.app5 e hn hg hd)
     obtain rfl : ws = b.ac:=e
     clear hn hg hd OB
     refine wpAnyR_takeL (i:=25) (kw:=1) (v:=.agg #[.slice A1 b.st.length k1,.slice A2 b.bt.length k2,.slice A3 b.pd.length k3,.slice A4 b.fo.length k4,.slice A5 b.ac.length k5,.int .i64 b.tu,.int .i64 b.un,.int .i64 b.ra,.int .i64 b.li]) (fun _=>bl_refl _) (fun p q=>bl_trans p q) rfl rfl (by kernel_rfl) (by kernel_rfl) (by kernel_rfl) (by kernel_rfl) (fun _ _ _ h=>h) HT7 (Or.inl ⟨by kernel_rfl,fun W' hI=>?_⟩) (fun HCL=>?_)
     ·exact .inl (by go_simp)
     refine wpAnyR_lastL (by kernel_rfl) (by kernel_rfl) rfl (by kernel_rfl) (fun wR hrR=>⟨bl_trans O7.out.bx hrR,?_⟩)
     intro K hK
     have OR:=Lib.hid (O7.out.below hrR)
     have NZR:=Lib.hid (NZ.out.below OR.out.bx)
     have BR:=Lib.hid (bl_trans B.out OR.out.bx)
     clear hrR O7
     try simp only [Act.put,List.setIfInBounds_toArray,List.set_cons_succ,List.set_cons_zero]
     refine wp_store_blk 27 9 (.tmp 2) (.tmp 28) rfl iB (w.heap.size + 1) rfl [.slice A1 b.st.length k1,.slice A2 b.bt.length k2,.slice A3 b.pd.length k3,.slice A4 b.fo.length k4,.slice A5 b.ac.length k5,.int .i64 b.tu,.int .i64 b.un,.int .i64 b.ra,.int .i64 b.li] rfl rfl (by simp [Value.oneCell']) _ NZR.out rfl ?_
     intro w9 k9 g9
     refine hK _ _ ?_
     clear hK K
     go_wp2_with fail
     obtain ⟨z0,_⟩:=k9.cell 0 _ rfl
     obtain ⟨z1,_⟩:=k9.cell 1 _ rfl
     obtain ⟨z2,_⟩:=k9.cell 2 _ rfl
     obtain ⟨z3,_⟩:=k9.cell 3 _ rfl
     obtain ⟨z4,_⟩:=k9.cell 4 _ rfl
     obtain ⟨z5,_⟩:=k9.cell 5 _ rfl
     obtain ⟨z6,_⟩:=k9.cell 6 _ rfl
     obtain ⟨z7,_⟩:=k9.cell 7 _ rfl
     obtain ⟨z8,_⟩:=k9.cell 8 _ rfl
     exact bodyPost_ret (v:=.agg #[.slice A1 b.st.length k1,.slice A2 b.bt.length k2,.slice A3 b.pd.length k3,.slice A4 b.fo.length k4,.slice A5 b.ac.length k5,.int .i64 b.tu,.int .i64 b.un,.int .i64 b.ra,.int .i64 b.li]) (by simp [results,Try.results112,go_sem,z0,z1,z2,z3,z4,z5,z6,z7,z8]) rfl ⟨_,rfl,(OR.out.done.grownB' g9 (by have:=B.out.size;have:=NZ.out.lt;omega)).less (by have:=B.out.size;have:=NZ.out.lt;omega),below_grown1 BR.out g9 (by omega)⟩
   ·have OB:=Lib.hid (O2.out.below (hr))
    clear hr O2
    go_simp
    refine hK _ _ (fun HT3=>?_)
    clear hK K
    have O3:=Lib.hid (OB.out.mkQ (by omega))
    clear OB
    obtain ⟨w3b,eM⟩ : ∃ wM,wM = w3a.alloc (.cells #[] 4):=⟨_,rfl⟩
    rw [← eM] at O3 ⊢
    clear eM
    generalize w3a.heap.size = gq at *
    refine wpAnyR_twoU HT3 (i:=8) (j:=9) (by kernel_rfl) rfl rfl (by kernel_rfl) (by kernel_rfl) (fun _ hr=>bl_trans O3.out.bx hr) (fun w4a hr K hK=>?_) (fun w4a hr K hK=>?_)
    ·have OB:=Lib.hid (O3.out.below (hr))
     clear hr O3
     have KO:=Lib.hid (own_any L.a3 L.c3 b.pd w4a (HRD.out.below OB.out.bx).r3 (by omega))
     go_simp
     go_wp2_with (go_at_call 154;refine KO.out.mono ?_;rintro e w4b ⟨A3,k3,rfl,ho,hb⟩;have O4:=Lib.hid (OB.out.call3 ho hb);clear ho hb OB KO)
     intro HT4
     refine wpAnyR_oneL HT4 (i:=9) (by kernel_rfl) rfl (by kernel_rfl) (fun w5a hr=>⟨bl_trans O4.out.bx hr,?_⟩)
     intro K hK
     have OB:=Lib.hid (O4.out.below (hr))
     clear hr O4
     go_simp
     refine hK _ _ (fun HT5=>?_)
     clear hK K
     have O5:=Lib.hid (OB.out.mkP (by omega))
     clear OB
     obtain ⟨w5b,eM⟩ : ∃ wM,wM = w5a.alloc (.cells #[] 4):=⟨_,rfl⟩
     rw [← eM] at O5 ⊢
     clear eM
     generalize w5a.heap.size = gp at *
     refine wpAnyR_oneL HT5 (i:=12) (by kernel_rfl) rfl (by kernel_rfl) (fun w6a hr=>⟨bl_trans O5.out.bx hr,?_⟩)
     intro K hK
     have OB:=Lib.hid (O5.out.below (hr))
     clear hr O5
     try simp only [Act.put,List.setIfInBounds_toArray,List.set_cons_succ,List.set_cons_zero]
     refine wp_glueB (.tmp 12) (.tmp 14) rfl W1.heap.size _ [] b.fo L.a4 L.c4 rfl (OB.out.p gp rfl (by omega)) rfl (HRD.out.below OB.out.bx).r4 (by simp;omega) OB.out.bx.size ?_
     intro A4 k4 ws w6b e hn hg hd
     refine hK _ _ (fun HT6=>?_)
     clear hK K
     have O6:=Lib.hid (OB.out.app4 e hn hg hd)
     obtain rfl : ws = b.fo:=e
     clear hn hg hd OB
     refine wpAnyR_oneL HT6 (i:=16) (by kernel_rfl) rfl (by kernel_rfl) (fun w7a hr=>⟨bl_trans O6.out.bx hr,?_⟩)
     intro K hK
     have OB:=Lib.hid (O6.out.below (hr))
     clear hr O6
     try simp only [Act.put,List.setIfInBounds_toArray,List.set_cons_succ,List.set_cons_zero]
     refine wp_glueB (.tmp 16) (.tmp 18) rfl W1.heap.size _ [] b.ac L.a5 L.c5 rfl (OB.out.q gq rfl (by omega)) rfl (HRD.out.below OB.out.bx).r5 (by simp;omega) OB.out.bx.size ?_
     intro A5 k5 ws w7b e hn hg hd
     refine hK _ _ (fun HT7=>?_)
     clear hK K
     have O7:=Lib.hid (OB.out.app5 e hn hg hd)
     obtain rfl : ws = b.ac:=e
     clear hn hg hd OB
     refine wpAnyR_takeL (i:=25) (kw:=1) (v:=.agg #[.slice A1 b.st.length k1,.slice A2 b.bt.length k2,.slice A3 b.pd.length k3,.slice A4 b.fo.length k4,.slice A5 b.ac.length k5,.int .i64 b.tu,.int .i64 b.un,.int .i64 b.ra,.int .i64 b.li]) (fun _=>bl_refl _) (fun p q=>bl_trans p q) rfl rfl (by kernel_rfl) (by kernel_rfl) (by kernel_rfl) (by kernel_rfl) (fun _ _ _ h=>h) HT7 (Or.inl ⟨by kernel_rfl,fun W' hI=>?_⟩) (fun HCL=>?_)
     ·exact .inl (by go_simp)
     refine wpAnyR_lastL (by kernel_rfl) (by kernel_rfl) rfl (by kernel_rfl) (fun wR hrR=>⟨bl_trans O7.out.bx hrR,?_⟩)
     intro K hK
     have OR:=Lib.hid (O7.out.below hrR)
     have NZR:=Lib.hid (NZ.out.below OR.out.bx)
     have BR:=Lib.hid (bl_trans B.out OR.out.bx)
     clear hrR O7
     try simp only [Act.put,List.setIfInBounds_toArray,List.set_cons_succ,List.set_cons_zero]
     refine wp_store_blk 27 9 (.tmp 2) (.tmp 28) rfl iB (w.heap.size + 1) rfl [.slice A1 b.st.length k1,.slice A2 b.bt.length k2,.slice A3 b.pd.length k3,.slice A4 b.fo.length k4,.slice A5 b.ac.length k5,.int .i64 b.tu,.int .i64 b.un,.int .i64 b.ra,.int .i64 b.li] rfl rfl (by simp [Value.oneCell']) _ NZR.out rfl ?_
     intro w9 k9 g9
     refine hK _ _ ?_
     clear hK K
     go_wp2_with fail
     obtain ⟨z0,_⟩:=k9.cell 0 _ rfl
     obtain ⟨z1,_⟩:=k9.cell 1 _ rfl
     obtain ⟨z2,_⟩:=k9.cell 2 _ rfl
     obtain ⟨z3,_⟩:=k9.cell 3 _ rfl
     obtain ⟨z4,_⟩:=k9.cell 4 _ rfl
     obtain ⟨z5,_⟩:=k9.cell 5 _ rfl
     obtain ⟨z6,_⟩:=k9.cell 6 _ rfl
     obtain ⟨z7,_⟩:=k9.cell 7 _ rfl
     obtain ⟨z8,_⟩:=k9.cell 8 _ rfl
     exact bodyPost_ret (v:=.agg #[.slice A1 b.st.length k1,.slice A2 b.bt.length k2,.slice A3 b.pd.length k3,.slice A4 b.fo.length k4,.slice A5 b.ac.length k5,.int .i64 b.tu,.int .i64 b.un,.int .i64 b.ra,.int .i64 b.li]) (by simp [results,Try.results112,go_sem,z0,z1,z2,z3,z4,z5,z6,z7,z8]) rfl ⟨_,rfl,(OR.out.done.grownB' g9 (by have:=B.out.size;have:=NZ.out.lt;omega)).less (by have:=B.out.size;have:=NZ.out.lt;omega),below_grown1 BR.out g9 (by omega)⟩
    ·have OB:=Lib.hid (O3.out.below (hr))
     clear hr O3
     go_simp
     refine hK _ _ (fun HT4=>?_)
     clear hK K
     have O4:=Lib.hid (OB.out.mkP (by omega))
     clear OB
     obtain ⟨w4b,eM⟩ : ∃ wM,wM = w4a.alloc (.cells #[] 4):=⟨_,rfl⟩
     rw [← eM] at O4 ⊢
     clear eM
     generalize w4a.heap.size = gp at *
     refine wpAnyR_oneL HT4 (i:=8) (by kernel_rfl) rfl (by kernel_rfl) (fun w5a hr=>⟨bl_trans O4.out.bx hr,?_⟩)
     intro K hK
     have OB:=Lib.hid (O4.out.below (hr))
     clear hr O4
     have KO:=Lib.hid (own_any L.a3 L.c3 b.pd w5a (HRD.out.below OB.out.bx).r3 (by omega))
     go_simp
     go_wp2_with (go_at_call 154;refine KO.out.mono ?_;rintro e w5b ⟨A3,k3,rfl,ho,hb⟩;have O5:=Lib.hid (OB.out.call3 ho hb);clear ho hb OB KO)
     intro HT5
     refine wpAnyR_oneL HT5 (i:=12) (by kernel_rfl) rfl (by kernel_rfl) (fun w6a hr=>⟨bl_trans O5.out.bx hr,?_⟩)
     intro K hK
     have OB:=Lib.hid (O5.out.below (hr))
     clear hr O5
     try simp only [Act.put,List.setIfInBounds_toArray,List.set_cons_succ,List.set_cons_zero]
     refine wp_glueB (.tmp 12) (.tmp 14) rfl W1.heap.size _ [] b.fo L.a4 L.c4 rfl (OB.out.p gp rfl (by omega)) rfl (HRD.out.below OB.out.bx).r4 (by simp;omega) OB.out.bx.size ?_
     intro A4 k4 ws w6b e hn hg hd
     refine hK _ _ (fun HT6=>?_)
     clear hK K
     have O6:=Lib.hid (OB.out.app4 e hn hg hd)
     obtain rfl : ws = b.fo:=e
     clear hn hg hd OB
     refine wpAnyR_oneL HT6 (i:=16) (by kernel_rfl) rfl (by kernel_rfl) (fun w7a hr=>⟨bl_trans O6.out.bx hr,?_⟩)
     intro K hK
     have OB:=Lib.hid (O6.out.below (hr))
     clear hr O6
     try simp only [Act.put,List.setIfInBounds_toArray,List.set_cons_succ,List.set_cons_zero]
     refine wp_glueB (.tmp 16) (.tmp 18) rfl W1.heap.size _ [] b.ac L.a5 L.c5 rfl (OB.out.q gq rfl (by omega)) rfl (HRD.out.below OB.out.bx).r5 (by simp;omega) OB.out.bx.size ?_
     intro A5 k5 ws w7b e hn hg hd
     refine hK _ _ (fun HT7=>?_)
     clear hK K
     have O7:=Lib.hid (OB.out.app5 e hn hg hd)
     obtain rfl : ws = b.ac:=e
     clear hn hg hd OB
     refine wpAnyR_takeL (i:=25) (kw:=1) (v:=.agg #[.slice A1 b.st.length k1,.slice A2 b.bt.length k2,.slice A3 b.pd.length k3,.slice A4 b.fo.length k4,.slice A5 b.ac.length k5,.int .i64 b.tu,.int .i64 b.un,.int .i64 b.ra,.int .i64 b.li]) (fun _=>bl_refl _) (fun p q=>bl_trans p q) rfl rfl (by kernel_rfl) (by kernel_rfl) (by kernel_rfl) (by kernel_rfl) (fun _ _ _ h=>h) HT7 (Or.inl ⟨by kernel_rfl,fun W' hI=>?_⟩) (fun HCL=>?_)
     ·exact .inl (by go_simp)
     refine wpAnyR_lastL (by kernel_rfl) (by kernel_rfl) rfl (by kernel_rfl) (fun wR hrR=>⟨bl_trans O7.out.bx hrR,?_⟩)
     intro K hK
     have OR:=Lib.hid (O7.out.below hrR)
     have NZR:=Lib.hid (NZ.out.below OR.out.bx)
     have BR:=Lib.hid (bl_trans B.out OR.out.bx)
     clear hrR O7
     try simp only [Act.put,List.setIfInBounds_toArray,List.set_cons_succ,List.set_cons_zero]
     refine wp_store_blk 27 9 (.tmp 2) (.tmp 28) rfl iB (w.heap.size + 1) rfl [.slice A1 b.st.length k1,.slice A2 b.bt.length k2,.slice A3 b.pd.length k3,.slice A4 b.fo.length k4,.slice A5 b.ac.length k5,.int .i64 b.tu,.int .i64 b.un,.int .i64 b.ra,.int .i64 b.li] rfl rfl (by simp [Value.oneCell']) _ NZR.out rfl ?_
     intro w9 k9 g9
     refine hK _ _ ?_
     clear hK K
     go_wp2_with fail
     obtain ⟨z0,_⟩:=k9.cell 0 _ rfl
     obtain ⟨z1,_⟩:=k9.cell 1 _ rfl
     obtain ⟨z2,_⟩:=k9.cell 2 _ rfl
     obtain ⟨z3,_⟩:=k9.cell 3 _ rfl
     obtain ⟨z4,_⟩:=k9.cell 4 _ rfl
     obtain ⟨z5,_⟩:=k9.cell 5 _ rfl
     obtain ⟨z6,_⟩:=k9.cell 6 _ rfl
     obtain ⟨z7,_⟩:=k9.cell 7 _ rfl
     obtain ⟨z8,_⟩:=k9.cell 8 _ rfl
     exact bodyPost_ret (v:=.agg #[.slice A1 b.st.length k1,.slice A2 b.bt.length k2,.slice A3 b.pd.length k3,.slice A4 b.fo.length k4,.slice A5 b.ac.length k5,.int .i64 b.tu,.int .i64 b.un,.int .i64 b.ra,.int .i64 b.li]) (by simp [results,Try.results112,go_sem,z0,z1,z2,z3,z4,z5,z6,z7,z8]) rfl ⟨_,rfl,(OR.out.done.grownB' g9 (by have:=B.out.size;have:=NZ.out.lt;omega)).less (by have:=B.out.size;have:=NZ.out.lt;omega),below_grown1 BR.out g9 (by omega)⟩
  ·have OB:=Lib.hid (O1.out.below (hr))
   clear hr O1
   go_simp
   refine hK _ _ (fun HT2=>?_)
   clear hK K
   have O2:=Lib.hid (OB.out.mkP (by omega))
   clear OB
   obtain ⟨w2b,eM⟩ : ∃ wM,wM = w2a.alloc (.cells #[] 4):=⟨_,rfl⟩
   rw [← eM] at O2 ⊢
   clear eM
   generalize w2a.heap.size = gp at *
   refine wpAnyR_twoU HT2 (i:=5) (j:=13) (by kernel_rfl) rfl rfl (by kernel_rfl) (by kernel_rfl) (fun _ hr=>bl_trans O2.out.bx hr) (fun w3a hr K hK=>?_) (fun w3a hr K hK=>?_)
   ·have OB:=Lib.hid (O2.out.below (hr))
    clear hr O2
    have KO:=Lib.hid (own_any L.a2 L.c2 b.bt w3a (HRD.out.below OB.out.bx).r2 (by omega))
    go_simp
    go_wp2_with (go_at_call 154;refine KO.out.mono ?_;rintro e w3b ⟨A2,k2,rfl,ho,hb⟩;have O3:=Lib.hid (OB.out.call2 ho hb);clear ho hb OB KO)
    intro HT3
    refine wpAnyR_twoU HT3 (i:=8) (j:=13) (by kernel_rfl) rfl rfl (by kernel_rfl) (by kernel_rfl) (fun _ hr=>bl_trans O3.out.bx hr) (fun w4a hr K hK=>?_) (fun w4a hr K hK=>?_)
    ·have OB:=Lib.hid (O3.out.below (hr))
     clear hr O3
     have KO:=Lib.hid (own_any L.a3 L.c3 b.pd w4a (HRD.out.below OB.out.bx).r3 (by omega))
     go_simp
     go_wp2_with (go_at_call 154;refine KO.out.mono ?_;rintro e w4b ⟨A3,k3,rfl,ho,hb⟩;have O4:=Lib.hid (OB.out.call3 ho hb);clear ho hb OB KO)
     intro HT4
     refine wpAnyR_twoU HT4 (i:=12) (j:=13) (by kernel_rfl) rfl rfl (by kernel_rfl) (by kernel_rfl) (fun _ hr=>bl_trans O4.out.bx hr) (fun w5a hr K hK=>?_) (fun w5a hr K hK=>?_)
     ·have OB:=Lib.hid (O4.out.below (hr))
      clear hr O4
      try simp only [Act.put,List.setIfInBounds_toArray,List.set_cons_succ,List.set_cons_zero]
      refine wp_glueB (.tmp 12) (.tmp 14) rfl W1.heap.size _ [] b.fo L.a4 L.c4 rfl (OB.out.p gp rfl (by omega)) rfl (HRD.out.below OB.out.bx).r4 (by simp;omega) OB.out.bx.size ?_
      intro A4 k4 ws w5b e hn hg hd
      refine hK _ _ (fun HT5=>?_)
      clear hK K
      have O5:=Lib.hid (OB.out.app4 e hn hg hd)
      obtain rfl : ws = b.fo:=e
      clear hn hg hd OB
      refine wpAnyR_oneL HT5 (i:=13) (by kernel_rfl) rfl (by kernel_rfl) (fun w6a hr=>⟨bl_trans O5.out.bx hr,?_⟩)
      intro K hK
      have OB:=Lib.hid (O5.out.below (hr))
      clear hr O5
      go_simp
      refine hK _ _ (fun HT6=>?_)
      clear hK K
      have O6:=Lib.hid (OB.out.mkQ (by omega))
      clear OB
      obtain ⟨w6b,eM⟩ : ∃ wM,wM = w6a.alloc (.cells #[] 4):=⟨_,rfl⟩
      rw [← eM] at O6 ⊢
      clear eM
      generalize w6a.heap.size = gq at *
      refine wpAnyR_oneL HT6 (i:=16) (by kernel_rfl) rfl (by kernel_rfl) (fun w7a hr=>⟨bl_trans O6.out.bx hr,?_⟩)
      intro K hK
      have OB:=Lib.hid (O6.out.below (hr))
      clear hr O6
      try simp only [Act.put,List.setIfInBounds_toArray,List.set_cons_succ,List.set_cons_zero]
      refine wp_glueB (.tmp 16) (.tmp 18) rfl W1.heap.size _ [] b.ac L.a5 L.c5 rfl (OB.out.q gq rfl (by omega)) rfl (HRD.out.below OB.out.bx).r5 (by simp;omega) OB.out.bx.size ?_
      intro A5 k5 ws w7b e hn hg hd
      refine hK _ _ (fun HT7=>?_)
      clear hK K
      have O7:=Lib.hid (OB.out.app5 e hn hg hd)
      obtain rfl : ws = b.ac:=e
      clear hn hg hd OB
      refine wpAnyR_takeL (i:=25) (kw:=1) (v:=.agg #[.slice A1 b.st.length k1,.slice A2 b.bt.length k2,.slice A3 b.pd.length k3,.slice A4 b.fo.length k4,.slice A5 b.ac.length k5,.int .i64 b.tu,.int .i64 b.un,.int .i64 b.ra,.int .i64 b.li]) (fun _=>bl_refl _) (fun p q=>bl_trans p q) rfl rfl (by kernel_rfl) (by kernel_rfl) (by kernel_rfl) (by kernel_rfl) (fun _ _ _ h=>h) HT7 (Or.inl ⟨by kernel_rfl,fun W' hI=>?_⟩) (fun HCL=>?_)
      ·exact .inl (by go_simp)
      refine wpAnyR_lastL (by kernel_rfl) (by kernel_rfl) rfl (by kernel_rfl) (fun wR hrR=>⟨bl_trans O7.out.bx hrR,?_⟩)
      intro K hK
      have OR:=Lib.hid (O7.out.below hrR)
      have NZR:=Lib.hid (NZ.out.below OR.out.bx)
      have BR:=Lib.hid (bl_trans B.out OR.out.bx)
      clear hrR O7
      try simp only [Act.put,List.setIfInBounds_toArray,List.set_cons_succ,List.set_cons_zero]
      refine wp_store_blk 27 9 (.tmp 2) (.tmp 28) rfl iB (w.heap.size + 1) rfl [.slice A1 b.st.length k1,.slice A2 b.bt.length k2,.slice A3 b.pd.length k3,.slice A4 b.fo.length k4,.slice A5 b.ac.length k5,.int .i64 b.tu,.int .i64 b.un,.int .i64 b.ra,.int .i64 b.li] rfl rfl (by simp [Value.oneCell']) _ NZR.out rfl ?_
      intro w9 k9 g9
      refine hK _ _ ?_
      clear hK K
      go_wp2_with fail
      obtain ⟨z0,_⟩:=k9.cell 0 _ rfl
      obtain ⟨z1,_⟩:=k9.cell 1 _ rfl
      obtain ⟨z2,_⟩:=k9.cell 2 _ rfl
      obtain ⟨z3,_⟩:=k9.cell 3 _ rfl
      obtain ⟨z4,_⟩:=k9.cell 4 _ rfl
      obtain ⟨z5,_⟩:=k9.cell 5 _ rfl
      obtain ⟨z6,_⟩:=k9.cell 6 _ rfl
      obtain ⟨z7,_⟩:=k9.cell 7 _ rfl
      obtain ⟨z8,_⟩:=k9.cell 8 _ rfl
      exact bodyPost_ret (v:=.agg #[.slice A1 b.st.length k1,.slice A2 b.bt.length k2,.slice A3 b.pd.length k3,.slice A4 b.fo.length k4,.slice A5 b.ac.length k5,.int .i64 b.tu,.int .i64 b.un,.int .i64 b.ra,.int .i64 b.li]) (by simp [results,Try.results112,go_sem,z0,z1,z2,z3,z4,z5,z6,z7,z8]) rfl ⟨_,rfl,(OR.out.done.grownB' g9 (by have:=B.out.size;have:=NZ.out.lt;omega)).less (by have:=B.out.size;have:=NZ.out.lt;omega),below_grown1 BR.out g9 (by omega)⟩
     ·have OB:=Lib.hid (O4.out.below (hr))
      clear hr O4
      go_simp
      refine hK _ _ (fun HT5=>?_)
      clear hK K
      have O5:=Lib.hid (OB.out.mkQ (by omega))
      clear OB
      obtain ⟨w5b,eM⟩ : ∃ wM,wM = w5a.alloc (.cells #[] 4):=⟨_,rfl⟩
      rw [← eM] at O5 ⊢
      clear eM
      generalize w5a.heap.size = gq at *
      refine wpAnyR_oneL HT5 (i:=12) (by kernel_rfl) rfl (by kernel_rfl) (fun w6a hr=>⟨bl_trans O5.out.bx hr,?_⟩)
      intro K hK
      have OB:=Lib.hid (O5.out.below (hr))
      clear hr O5
      try simp only [Act.put,List.setIfInBounds_toArray,List.set_cons_succ,List.set_cons_zero]
      refine wp_glueB (.tmp 12) (.tmp 14) rfl W1.heap.size _ [] b.fo L.a4 L.c4 rfl (OB.out.p gp rfl (by omega)) rfl (HRD.out.below OB.out.bx).r4 (by simp;omega) OB.out.bx.size ?_
      intro A4 k4 ws w6b e hn hg hd
      refine hK _ _ (fun HT6=>?_)
      clear hK K
      have O6:=Lib.hid (OB.out.app4 e hn hg hd)
      obtain rfl : ws = b.fo:=e
      clear hn hg hd OB
      refine wpAnyR_oneL HT6 (i:=16) (by kernel_rfl) rfl (by kernel_rfl) (fun w7a hr=>⟨bl_trans O6.out.bx hr,?_⟩)
      intro K hK
      have OB:=Lib.hid (O6.out.below (hr))
      clear hr O6
      try simp only [Act.put,List.setIfInBounds_toArray,List.set_cons_succ,List.set_cons_zero]
      refine wp_glueB (.tmp 16) (.tmp 18) rfl W1.heap.size _ [] b.ac L.a5 L.c5 rfl (OB.out.q gq rfl (by omega)) rfl (HRD.out.below OB.out.bx).r5 (by simp;omega) OB.out.bx.size ?_
      intro A5 k5 ws w7b e hn hg hd
      refine hK _ _ (fun HT7=>?_)
      clear hK K
      have O7:=Lib.hid (OB.out.app5 e hn hg hd)
      obtain rfl : ws = b.ac:=e
      clear hn hg hd OB
      refine wpAnyR_takeL (i:=25) (kw:=1) (v:=.agg #[.slice A1 b.st.length k1,.slice A2 b.bt.length k2,.slice A3 b.pd.length k3,.slice A4 b.fo.length k4,.slice A5 b.ac.length k5,.int .i64 b.tu,.int .i64 b.un,.int .i64 b.ra,.int .i64 b.li]) (fun _=>bl_refl _) (fun p q=>bl_trans p q) rfl rfl (by kernel_rfl) (by kernel_rfl) (by kernel_rfl) (by kernel_rfl) (fun _ _ _ h=>h) HT7 (Or.inl ⟨by kernel_rfl,fun W' hI=>?_⟩) (fun HCL=>?_)
      ·exact .inl (by go_simp)
      refine wpAnyR_lastL (by kernel_rfl) (by kernel_rfl) rfl (by kernel_rfl) (fun wR hrR=>⟨bl_trans O7.out.bx hrR,?_⟩)
      intro K hK
      have OR:=Lib.hid (O7.out.below hrR)
      have NZR:=Lib.hid (NZ.out.below OR.out.bx)
      have BR:=Lib.hid (bl_trans B.out OR.out.bx)
      clear hrR O7
      try simp only [Act.put,List.setIfInBounds_toArray,List.set_cons_succ,List.set_cons_zero]
      refine wp_store_blk 27 9 (.tmp 2) (.tmp 28) rfl iB (w.heap.size + 1) rfl [.slice A1 b.st.length k1,.slice A2 b.bt.length k2,.slice A3 b.pd.length k3,.slice A4 b.fo.length k4,.slice A5 b.ac.length k5,.int .i64 b.tu,.int .i64 b.un,.int .i64 b.ra,.int .i64 b.li] rfl rfl (by simp [Value.oneCell']) _ NZR.out rfl ?_
      intro w9 k9 g9
      refine hK _ _ ?_
      clear hK K
      go_wp2_with fail
      obtain ⟨z0,_⟩:=k9.cell 0 _ rfl
      obtain ⟨z1,_⟩:=k9.cell 1 _ rfl
      obtain ⟨z2,_⟩:=k9.cell 2 _ rfl
      obtain ⟨z3,_⟩:=k9.cell 3 _ rfl
      obtain ⟨z4,_⟩:=k9.cell 4 _ rfl
      obtain ⟨z5,_⟩:=k9.cell 5 _ rfl
      obtain ⟨z6,_⟩:=k9.cell 6 _ rfl
      obtain ⟨z7,_⟩:=k9.cell 7 _ rfl
      obtain ⟨z8,_⟩:=k9.cell 8 _ rfl
      exact bodyPost_ret (v:=.agg #[.slice A1 b.st.length k1,.slice A2 b.bt.length k2,.slice A3 b.pd.length k3,.slice A4 b.fo.length k4,.slice A5 b.ac.length k5,.int .i64 b.tu,.int .i64 b.un,.int .i64 b.ra,.int .i64 b.li]) (by simp [results,Try.results112,go_sem,z0,z1,z2,z3,z4,z5,z6,z7,z8]) rfl ⟨_,rfl,(OR.out.done.grownB' g9 (by have:=B.out.size;have:=NZ.out.lt;omega)).less (by have:=B.out.size;have:=NZ.out.lt;omega),below_grown1 BR.out g9 (by omega)⟩
    ·have OB:=Lib.hid (O3.out.below (hr))
     clear hr O3
     go_simp
     refine hK _ _ (fun HT4=>?_)
     clear hK K
     have O4:=Lib.hid (OB.out.mkQ (by omega))
     clear OB
     obtain ⟨w4b,eM⟩ : ∃ wM,wM = w4a.alloc (.cells #[] 4):=⟨_,rfl⟩
     rw [← eM] at O4 ⊢
     clear eM
     generalize w4a.heap.size = gq at *
     refine wpAnyR_oneL HT4 (i:=8) (by kernel_rfl) rfl (by kernel_rfl) (fun w5a hr=>⟨bl_trans O4.out.bx hr,?_⟩)
     intro K hK
     have OB:=Lib.hid (O4.out.below (hr))
     clear hr O4
     have KO:=Lib.hid (own_any L.a3 L.c3 b.pd w5a (HRD.out.below OB.out.bx).r3 (by omega))
     go_simp
     go_wp2_with (go_at_call 154;refine KO.out.mono ?_;rintro e w5b ⟨A3,k3,rfl,ho,hb⟩;have O5:=Lib.hid (OB.out.call3 ho hb);clear ho hb OB KO)
     intro HT5
     refine wpAnyR_oneL HT5 (i:=12) (by kernel_rfl) rfl (by kernel_rfl) (fun w6a hr=>⟨bl_trans O5.out.bx hr,?_⟩)
     intro K hK
     have OB:=Lib.hid (O5.out.below (hr))
     clear hr O5
     try simp only [Act.put,List.setIfInBounds_toArray,List.set_cons_succ,List.set_cons_zero]
     refine wp_glueB (.tmp 12) (.tmp 14) rfl W1.heap.size _ [] b.fo L.a4 L.c4 rfl (OB.out.p gp rfl (by omega)) rfl (HRD.out.below OB.out.bx).r4 (by simp;omega) OB.out.bx.size ?_
     intro A4 k4 ws w6b e hn hg hd
     refine hK _ _ (fun HT6=>?_)
     clear hK K
     have O6:=Lib.hid (OB.out.app4 e hn hg hd)
     obtain rfl : ws = b.fo:=e
     clear hn hg hd OB
     refine wpAnyR_oneL HT6 (i:=16) (by kernel_rfl) rfl (by kernel_rfl) (fun w7a hr=>⟨bl_trans O6.out.bx hr,?_⟩)
     intro K hK
     have OB:=Lib.hid (O6.out.below (hr))
     clear hr O6
     try simp only [Act.put,List.setIfInBounds_toArray,List.set_cons_succ,List.set_cons_zero]
     refine wp_glueB (.tmp 16) (.tmp 18) rfl W1.heap.size _ [] b.ac L.a5 L.c5 rfl (OB.out.q gq rfl (by omega)) rfl (HRD.out.below OB.out.bx).r5 (by simp;omega) OB.out.bx.size ?_
     intro A5 k5 ws w7b e hn hg hd
     refine hK _ _ (fun HT7=>?_)
     clear hK K
     have O7:=Lib.hid (OB.out.app5 e hn hg hd)
     obtain rfl : ws = b.ac:=e
     clear hn hg hd OB
     refine wpAnyR_takeL (i:=25) (kw:=1) (v:=.agg #[.slice A1 b.st.length k1,.slice A2 b.bt.length k2,.slice A3 b.pd.length k3,.slice A4 b.fo.length k4,.slice A5 b.ac.length k5,.int .i64 b.tu,.int .i64 b.un,.int .i64 b.ra,.int .i64 b.li]) (fun _=>bl_refl _) (fun p q=>bl_trans p q) rfl rfl (by kernel_rfl) (by kernel_rfl) (by kernel_rfl) (by kernel_rfl) (fun _ _ _ h=>h) HT7 (Or.inl ⟨by kernel_rfl,fun W' hI=>?_⟩) (fun HCL=>?_)
     ·exact .inl (by go_simp)
     refine wpAnyR_lastL (by kernel_rfl) (by kernel_rfl) rfl (by kernel_rfl) (fun wR hrR=>⟨bl_trans O7.out.bx hrR,?_⟩)
     intro K hK
     have OR:=Lib.hid (O7.out.below hrR)
     have NZR:=Lib.hid (NZ.out.below OR.out.bx)
     have BR:=Lib.hid (bl_trans B.out OR.out.bx)
     clear hrR O7
     try simp only [Act.put,List.setIfInBounds_toArray,List.set_cons_succ,List.set_cons_zero]
     refine wp_store_blk 27 9 (.tmp 2) (.tmp 28) rfl iB (w.heap.size + 1) rfl [.slice A1 b.st.length k1,.slice A2 b.bt.length k2,.slice A3 b.pd.length k3,.slice A4 b.fo.length k4,.slice A5 b.ac.length k5,.int .i64 b.tu,.int .i64 b.un,.int .i64 b.ra,.int .i64 b.li] rfl rfl (by simp [Value.oneCell']) _ NZR.out rfl ?_
     intro w9 k9 g9
     refine hK _ _ ?_
     clear hK K
     go_wp2_with fail
     obtain ⟨z0,_⟩:=k9.cell 0 _ rfl
     obtain ⟨z1,_⟩:=k9.cell 1 _ rfl
     obtain ⟨z2,_⟩:=k9.cell 2 _ rfl
     obtain ⟨z3,_⟩:=k9.cell 3 _ rfl
     obtain ⟨z4,_⟩:=k9.cell 4 _ rfl
     obtain ⟨z5,_⟩:=k9.cell 5 _ rfl
     obtain ⟨z6,_⟩:=k9.cell 6 _ rfl
     obtain ⟨z7,_⟩:=k9.cell 7 _ rfl
     obtain ⟨z8,_⟩:=k9.cell 8 _ rfl
     exact bodyPost_ret (v:=.agg #[.slice A1 b.st.length k1,.slice A2 b.bt.length k2,.slice A3 b.pd.length k3,.slice A4 b.fo.length k4,.slice A5 b.ac.length k5,.int .i64 b.tu,.int .i64 b.un,.int .i64 b.ra,.int .i64 b.li]) (by simp [results,Try.results112,go_sem,z0,z1,z2,z3,z4,z5,z6,z7,z8]) rfl ⟨_,rfl,(OR.out.done.grownB' g9 (by have:=B.out.size;have:=NZ.out.lt;omega)).less (by have:=B.out.size;have:=NZ.out.lt;omega),below_grown1 BR.out g9 (by omega)⟩
   ·have OB:=Lib.hid (O2.out.below (hr))
    clear hr O2
    go_simp
    refine hK _ _ (fun HT3=>?_)
    clear hK K
    have O3:=Lib.hid (OB.out.mkQ (by omega))
    clear OB
    obtain ⟨w3b,eM⟩ : ∃ wM,wM = w3a.alloc (.cells #[] 4):=⟨_,rfl⟩
    rw [← eM] at O3 ⊢
    clear eM
    generalize w3a.heap.size = gq at *
    refine wpAnyR_oneL HT3 (i:=5) (by kernel_rfl) rfl (by kernel_rfl) (fun w4a hr=>⟨bl_trans O3.out.bx hr,?_⟩)
    intro K hK
    have OB:=Lib.hid (O3.out.below (hr))
    clear hr O3
    have KO:=Lib.hid (own_any L.a2 L.c2 b.bt w4a (HRD.out.below OB.out.bx).r2 (by omega))
    go_simp
    go_wp2_with (go_at_call 154;refine KO.out.mono ?_;rintro e w4b ⟨A2,k2,rfl,ho,hb⟩;have O4:=Lib.hid (OB.out.call2 ho hb);clear ho hb OB KO)
    intro HT4
    refine wpAnyR_oneL HT4 (i:=8) (by kernel_rfl) rfl (by kernel_rfl) (fun w5a hr=>⟨bl_trans O4.out.bx hr,?_⟩)
    intro K hK
    have OB:=Lib.hid (O4.out.below (hr))
    clear hr O4
    have KO:=Lib.hid (own_any L.a3 L.c3 b.pd w5a (HRD.out.below OB.out.bx).r3 (by omega))
    go_simp
    go_wp2_with (go_at_call 154;refine KO.out.mono ?_;rintro e w5b ⟨A3,k3,rfl,ho,hb⟩;have O5:=Lib.hid (OB.out.call3 ho hb);clear ho hb OB KO)
    intro HT5
    refine wpAnyR_oneL HT5 (i:=12) (by kernel_rfl) rfl (by kernel_rfl) (fun w6a hr=>⟨bl_trans O5.out.bx hr,?_⟩)
    intro K hK
    have OB:=Lib.hid (O5.out.below (hr))
    clear hr O5
    try simp only [Act.put,List.setIfInBounds_toArray,List.set_cons_succ,List.set_cons_zero]
    refine wp_glueB (.tmp 12) (.tmp 14) rfl W1.heap.size _ [] b.fo L.a4 L.c4 rfl (OB.out.p gp rfl (by omega)) rfl (HRD.out.below OB.out.bx).r4 (by simp;omega) OB.out.bx.size ?_
    intro A4 k4 ws w6b e hn hg hd
    refine hK _ _ (fun HT6=>?_)
    clear hK K
    have O6:=Lib.hid (OB.out.app4 e hn hg hd)
    obtain rfl : ws = b.fo:=e
    clear hn hg hd OB
    refine wpAnyR_oneL HT6 (i:=16) (by kernel_rfl) rfl (by kernel_rfl) (fun w7a hr=>⟨bl_trans O6.out.bx hr,?_⟩)
    intro K hK
    have OB:=Lib.hid (O6.out.below (hr))
    clear hr O6
    try simp only [Act.put,List.setIfInBounds_toArray,List.set_cons_succ,List.set_cons_zero]
    refine wp_glueB (.tmp 16) (.tmp 18) rfl W1.heap.size _ [] b.ac L.a5 L.c5 rfl (OB.out.q gq rfl (by omega)) rfl (HRD.out.below OB.out.bx).r5 (by simp;omega) OB.out.bx.size ?_
    intro A5 k5 ws w7b e hn hg hd
    refine hK _ _ (fun HT7=>?_)
    clear hK K
    have O7:=Lib.hid (OB.out.app5 e hn hg hd)
    obtain rfl : ws = b.ac:=e
    clear hn hg hd OB
    refine wpAnyR_takeL (i:=25) (kw:=1) (v:=.agg #[.slice A1 b.st.length k1,.slice A2 b.bt.length k2,.slice A3 b.pd.length k3,.slice A4 b.fo.length k4,.slice A5 b.ac.length k5,.int .i64 b.tu,.int .i64 b.un,.int .i64 b.ra,.int .i64 b.li]) (fun _=>bl_refl _) (fun p q=>bl_trans p q) rfl rfl (by kernel_rfl) (by kernel_rfl) (by kernel_rfl) (by kernel_rfl) (fun _ _ _ h=>h) HT7 (Or.inl ⟨by kernel_rfl,fun W' hI=>?_⟩) (fun HCL=>?_)
    ·exact .inl (by go_simp)
    refine wpAnyR_lastL (by kernel_rfl) (by kernel_rfl) rfl (by kernel_rfl) (fun wR hrR=>⟨bl_trans O7.out.bx hrR,?_⟩)
    intro K hK
    have OR:=Lib.hid (O7.out.below hrR)
    have NZR:=Lib.hid (NZ.out.below OR.out.bx)
    have BR:=Lib.hid (bl_trans B.out OR.out.bx)
    clear hrR O7
    try simp only [Act.put,List.setIfInBounds_toArray,List.set_cons_succ,List.set_cons_zero]
    refine wp_store_blk 27 9 (.tmp 2) (.tmp 28) rfl iB (w.heap.size + 1) rfl [.slice A1 b.st.length k1,.slice A2 b.bt.length k2,.slice A3 b.pd.length k3,.slice A4 b.fo.length k4,.slice A5 b.ac.length k5,.int .i64 b.tu,.int .i64 b.un,.int .i64 b.ra,.int .i64 b.li] rfl rfl (by simp [Value.oneCell']) _ NZR.out rfl ?_
    intro w9 k9 g9
    refine hK _ _ ?_
    clear hK K
    go_wp2_with fail
    obtain ⟨z0,_⟩:=k9.cell 0 _ rfl
    obtain ⟨z1,_⟩:=k9.cell 1 _ rfl
    obtain ⟨z2,_⟩:=k9.cell 2 _ rfl
    obtain ⟨z3,_⟩:=k9.cell 3 _ rfl
    obtain ⟨z4,_⟩:=k9.cell 4 _ rfl
    obtain ⟨z5,_⟩:=k9.cell 5 _ rfl
    obtain ⟨z6,_⟩:=k9.cell 6 _ rfl
    obtain ⟨z7,_⟩:=k9.cell 7 _ rfl
    obtain ⟨z8,_⟩:=k9.cell 8 _ rfl
    exact bodyPost_ret (v:=.agg #[.slice A1 b.st.length k1,.slice A2 b.bt.length k2,.slice A3 b.pd.length k3,.slice A4 b.fo.length k4,.slice A5 b.ac.length k5,.int .i64 b.tu,.int .i64 b.un,.int .i64 b.ra,.int .i64 b.li]) (by simp [results,Try.results112,go_sem,z0,z1,z2,z3,z4,z5,z6,z7,z8]) rfl ⟨_,rfl,(OR.out.done.grownB' g9 (by have:=B.out.size;have:=NZ.out.lt;omega)).less (by have:=B.out.size;have:=NZ.out.lt;omega),below_grown1 BR.out g9 (by omega)⟩
  ·have OB:=Lib.hid (O1.out.below (hr))
   clear hr O1
   go_simp
   refine hK _ _ (fun HT2=>?_)
   clear hK K
   have O2:=Lib.hid (OB.out.mkQ (by omega))
   clear OB
   obtain ⟨w2b,eM⟩ : ∃ wM,wM = w2a.alloc (.cells #[] 4):=⟨_,rfl⟩
   rw [← eM] at O2 ⊢
   clear eM
   generalize w2a.heap.size = gq at *
   refine wpAnyR_twoU HT2 (i:=5) (j:=9) (by kernel_rfl) rfl rfl (by kernel_rfl) (by kernel_rfl) (fun _ hr=>bl_trans O2.out.bx hr) (fun w3a hr K hK=>?_) (fun w3a hr K hK=>?_)
   ·have OB:=Lib.hid (O2.out.below (hr))
    clear hr O2
    have KO:=Lib.hid (own_any L.a2 L.c2 b.bt w3a (HRD.out.below OB.out.bx).r2 (by omega))
    go_simp
    go_wp2_with (go_at_call 154;refine KO.out.mono ?_;rintro e w3b ⟨A2,k2,rfl,ho,hb⟩;have O3:=Lib.hid (OB.out.call2 ho hb);clear ho hb OB KO)
    intro HT3
    refine wpAnyR_twoU HT3 (i:=8) (j:=9) (by kernel_rfl) rfl rfl (by kernel_rfl) (by kernel_rfl) (fun _ hr=>bl_trans O3.out.bx hr) (fun w4a hr K hK=>?_) (fun w4a hr K hK=>?_)
    ·have OB:=Lib.hid (O3.out.below (hr))
     clear hr O3
     have KO:=Lib.hid (own_any L.a3 L.c3 b.pd w4a (HRD.out.below OB.out.bx).r3 (by omega))
     go_simp
     go_wp2_with (go_at_call 154;refine KO.out.mono ?_;rintro e w4b ⟨A3,k3,rfl,ho,hb⟩;have O4:=Lib.hid (OB.out.call3 ho hb);clear ho hb OB KO)
     intro HT4
     refine wpAnyR_oneL HT4 (i:=9) (by kernel_rfl) rfl (by kernel_rfl) (fun w5a hr=>⟨bl_trans O4.out.bx hr,?_⟩)
     intro K hK
     have OB:=Lib.hid (O4.out.below (hr))
     clear hr O4
     go_simp
     refine hK _ _ (fun HT5=>?_)
     clear hK K
     have O5:=Lib.hid (OB.out.mkP (by omega))
     clear OB
     obtain ⟨w5b,eM⟩ : ∃ wM,wM = w5a.alloc (.cells #[] 4):=⟨_,rfl⟩
     rw [← eM] at O5 ⊢
     clear eM
     generalize w5a.heap.size = gp at *
     refine wpAnyR_oneL HT5 (i:=12) (by kernel_rfl) rfl (by kernel_rfl) (fun w6a hr=>⟨bl_trans O5.out.bx hr,?_⟩)
     intro K hK
     have OB:=Lib.hid (O5.out.below (hr))
     clear hr O5
     try simp only [Act.put,List.setIfInBounds_toArray,List.set_cons_succ,List.set_cons_zero]
     refine wp_glueB (.tmp 12) (.tmp 14) rfl W1.heap.size _ [] b.fo L.a4 L.c4 rfl (OB.out.p gp rfl (by omega)) rfl (HRD.out.below OB.out.bx).r4 (by simp;omega) OB.out.bx.size ?_
     intro A4 k4 ws w6b e hn hg hd
     refine hK _ _ (fun HT6=>?_)
     clear hK K
     have O6:=Lib.hid (OB.out.app4 e hn hg hd)
     obtain rfl : ws = b.fo:=e
     clear hn hg hd OB
     refine wpAnyR_oneL HT6 (i:=16) (by kernel_rfl) rfl (by kernel_rfl) (fun w7a hr=>⟨bl_trans O6.out.bx hr,?_⟩)
     intro K hK
     have OB:=Lib.hid (O6.out.below (hr))
     clear hr O6
     try simp only [Act.put,List.setIfInBounds_toArray,List.set_cons_succ,List.set_cons_zero]
     refine wp_glueB (.tmp 16) (.tmp 18) rfl W1.heap.size _ [] b.ac L.a5 L.c5 rfl (OB.out.q gq rfl (by omega)) rfl (HRD.out.below OB.out.bx).r5 (by simp;omega) OB.out.bx.size ?_
     intro A5 k5 ws w7b e hn hg hd
     refine hK _ _ (fun HT7=>?_)
     clear hK K
     have O7:=Lib.hid (OB.out.app5 e hn hg hd)
     obtain rfl : ws = b.ac:=e
     clear hn hg hd OB
     refine wpAnyR_takeL (i:=25) (kw:=1) (v:=.agg #[.slice A1 b.st.length k1,.slice A2 b.bt.length k2,.slice A3 b.pd.length k3,.slice A4 b.fo.length k4,.slice A5 b.ac.length k5,.int .i64 b.tu,.int .i64 b.un,.int .i64 b.ra,.int .i64 b.li]) (fun _=>bl_refl _) (fun p q=>bl_trans p q) rfl rfl (by kernel_rfl) (by kernel_rfl) (by kernel_rfl) (by kernel_rfl) (fun _ _ _ h=>h) HT7 (Or.inl ⟨by kernel_rfl,fun W' hI=>?_⟩) (fun HCL=>?_)
     ·exact .inl (by go_simp)
     refine wpAnyR_lastL (by kernel_rfl) (by kernel_rfl) rfl (by kernel_rfl) (fun wR hrR=>⟨bl_trans O7.out.bx hrR,?_⟩)
     intro K hK
     have OR:=Lib.hid (O7.out.below hrR)
     have NZR:=Lib.hid (NZ.out.below OR.out.bx)
     have BR:=Lib.hid (bl_trans B.out OR.out.bx)
     clear hrR O7
     try simp only [Act.put,List.setIfInBounds_toArray,List.set_cons_succ,List.set_cons_zero]
     refine wp_store_blk 27 9 (.tmp 2) (.tmp 28) rfl iB (w.heap.size + 1) rfl [.slice A1 b.st.length k1,.slice A2 b.bt.length k2,.slice A3 b.pd.length k3,.slice A4 b.fo.length k4,.slice A5 b.ac.length k5,.int .i64 b.tu,.int .i64 b.un,.int .i64 b.ra,.int .i64 b.li] rfl rfl (by simp [Value.oneCell']) _ NZR.out rfl ?_
     intro w9 k9 g9
     refine hK _ _ ?_
     clear hK K
     go_wp2_with fail
     obtain ⟨z0,_⟩:=k9.cell 0 _ rfl
     obtain ⟨z1,_⟩:=k9.cell 1 _ rfl
     obtain ⟨z2,_⟩:=k9.cell 2 _ rfl
     obtain ⟨z3,_⟩:=k9.cell 3 _ rfl
     obtain ⟨z4,_⟩:=k9.cell 4 _ rfl
     obtain ⟨z5,_⟩:=k9.cell 5 _ rfl
     obtain ⟨z6,_⟩:=k9.cell 6 _ rfl
     obtain ⟨z7,_⟩:=k9.cell 7 _ rfl
     obtain ⟨z8,_⟩:=k9.cell 8 _ rfl
     exact bodyPost_ret (v:=.agg #[.slice A1 b.st.length k1,.slice A2 b.bt.length k2,.slice A3 b.pd.length k3,.slice A4 b.fo.length k4,.slice A5 b.ac.length k5,.int .i64 b.tu,.int .i64 b.un,.int .i64 b.ra,.int .i64 b.li]) (by simp [results,Try.results112,go_sem,z0,z1,z2,z3,z4,z5,z6,z7,z8]) rfl ⟨_,rfl,(OR.out.done.grownB' g9 (by have:=B.out.size;have:=NZ.out.lt;omega)).less (by have:=B.out.size;have:=NZ.out.lt;omega),below_grown1 BR.out g9 (by omega)⟩
    ·have OB:=Lib.hid (O3.out.below (hr))
     clear hr O3
     go_simp
     refine hK _ _ (fun HT4=>?_)
     clear hK K
     have O4:=Lib.hid (OB.out.mkP (by omega))
     clear OB
     obtain ⟨w4b,eM⟩ : ∃ wM,wM = w4a.alloc (.cells #[] 4):=⟨_,rfl⟩
     rw [← eM] at O4 ⊢
     clear eM
     generalize w4a.heap.size = gp at *
     refine wpAnyR_oneL HT4 (i:=8) (by kernel_rfl) rfl (by kernel_rfl) (fun w5a hr=>⟨bl_trans O4.out.bx hr,?_⟩)
     intro K hK
     have OB:=Lib.hid (O4.out.below (hr))
     clear hr O4
     have KO:=Lib.hid (own_any L.a3 L.c3 b.pd w5a (HRD.out.below OB.out.bx).r3 (by omega))
     go_simp
     go_wp2_with (go_at_call 154;refine KO.out.mono ?_;rintro e w5b ⟨A3,k3,rfl,ho,hb⟩;have O5:=Lib.hid (OB.out.call3 ho hb);clear ho hb OB KO)
     intro HT5
     refine wpAnyR_oneL HT5 (i:=12) (by kernel_rfl) rfl (by kernel_rfl) (fun w6a hr=>⟨bl_trans O5.out.bx hr,?_⟩)
     intro K hK
     have OB:=Lib.hid (O5.out.below (hr))
     clear hr O5
     try simp only [Act.put,List.setIfInBounds_toArray,List.set_cons_succ,List.set_cons_zero]
     refine wp_glueB (.tmp 12) (.tmp 14) rfl W1.heap.size _ [] b.fo L.a4 L.c4 rfl (OB.out.p gp rfl (by omega)) rfl (HRD.out.below OB.out.bx).r4 (by simp;omega) OB.out.bx.size ?_
     intro A4 k4 ws w6b e hn hg hd
     refine hK _ _ (fun HT6=>?_)
     clear hK K
     have O6:=Lib.hid (OB.out.app4 e hn hg hd)
     obtain rfl : ws = b.fo:=e
     clear hn hg hd OB
     refine wpAnyR_oneL HT6 (i:=16) (by kernel_rfl) rfl (by kernel_rfl) (fun w7a hr=>⟨bl_trans O6.out.bx hr,?_⟩)
     intro K hK
     have OB:=Lib.hid (O6.out.below (hr))
     clear hr O6
     try simp only [Act.put,List.setIfInBounds_toArray,List.set_cons_succ,List.set_cons_zero]
     refine wp_glueB (.tmp 16) (.tmp 18) rfl W1.heap.size _ [] b.ac L.a5 L.c5 rfl (OB.out.q gq rfl (by omega)) rfl (HRD.out.below OB.out.bx).r5 (by simp;omega) OB.out.bx.size ?_
     intro A5 k5 ws w7b e hn hg hd
     refine hK _ _ (fun HT7=>?_)
     clear hK K
     have O7:=Lib.hid (OB.out.app5 e hn hg hd)
     obtain rfl : ws = b.ac:=e
     clear hn hg hd OB
     refine wpAnyR_takeL (i:=25) (kw:=1) (v:=.agg #[.slice A1 b.st.length k1,.slice A2 b.bt.length k2,.slice A3 b.pd.length k3,.slice A4 b.fo.length k4,.slice A5 b.ac.length k5,.int .i64 b.tu,.int .i64 b.un,.int .i64 b.ra,.int .i64 b.li]) (fun _=>bl_refl _) (fun p q=>bl_trans p q) rfl rfl (by kernel_rfl) (by kernel_rfl) (by kernel_rfl) (by kernel_rfl) (fun _ _ _ h=>h) HT7 (Or.inl ⟨by kernel_rfl,fun W' hI=>?_⟩) (fun HCL=>?_)
     ·exact .inl (by go_simp)
     refine wpAnyR_lastL (by kernel_rfl) (by kernel_rfl) rfl (by kernel_rfl) (fun wR hrR=>⟨bl_trans O7.out.bx hrR,?_⟩)
     intro K hK
     have OR:=Lib.hid (O7.out.below hrR)
     have NZR:=Lib.hid (NZ.out.below OR.out.bx)
     have BR:=Lib.hid (bl_trans B.out OR.out.bx)
     clear hrR O7
     try simp only [Act.put,List.setIfInBounds_toArray,List.set_cons_succ,List.set_cons_zero]
     refine wp_store_blk 27 9 (.tmp 2) (.tmp 28) rfl iB (w.heap.size + 1) rfl [.slice A1 b.st.length k1,.slice A2 b.bt.length k2,.slice A3 b.pd.length k3,.slice A4 b.fo.length k4,.slice A5 b.ac.length k5,.int .i64 b.tu,.int .i64 b.un,.int .i64 b.ra,.int .i64 b.li] rfl rfl (by simp [Value.oneCell']) _ NZR.out rfl ?_
     intro w9 k9 g9
     refine hK _ _ ?_
     clear hK K
     go_wp2_with fail
     obtain ⟨z0,_⟩:=k9.cell 0 _ rfl
     obtain ⟨z1,_⟩:=k9.cell 1 _ rfl
     obtain ⟨z2,_⟩:=k9.cell 2 _ rfl
     obtain ⟨z3,_⟩:=k9.cell 3 _ rfl
     obtain ⟨z4,_⟩:=k9.cell 4 _ rfl
     obtain ⟨z5,_⟩:=k9.cell 5 _ rfl
     obtain ⟨z6,_⟩:=k9.cell 6 _ rfl
     obtain ⟨z7,_⟩:=k9.cell 7 _ rfl
     obtain ⟨z8,_⟩:=k9.cell 8 _ rfl
     exact bodyPost_ret (v:=.agg #[.slice A1 b.st.length k1,.slice A2 b.bt.length k2,.slice A3 b.pd.length k3,.slice A4 b.fo.length k4,.slice A5 b.ac.length k5,.int .i64 b.tu,.int .i64 b.un,.int .i64 b.ra,.int .i64 b.li]) (by simp [results,Try.results112,go_sem,z0,z1,z2,z3,z4,z5,z6,z7,z8]) rfl ⟨_,rfl,(OR.out.done.grownB' g9 (by have:=B.out.size;have:=NZ.out.lt;omega)).less (by have:=B.out.size;have:=NZ.out.lt;omega),below_grown1 BR.out g9 (by omega)⟩
   ·have OB:=Lib.hid (O2.out.below (hr))
    clear hr O2
    go_simp
    refine hK _ _ (fun HT3=>?_)
    clear hK K
    have O3:=Lib.hid (OB.out.mkP (by omega))
    clear OB
    obtain ⟨w3b,eM⟩ : ∃ wM,wM = w3a.alloc (.cells #[] 4):=⟨_,rfl⟩
    rw [← eM] at O3 ⊢
    clear eM
    generalize w3a.heap.size = gp at *
    refine wpAnyR_oneL HT3 (i:=5) (by kernel_rfl) rfl (by kernel_rfl) (fun w4a hr=>⟨bl_trans O3.out.bx hr,?_⟩)
    intro K hK
    have OB:=Lib.hid (O3.out.below (hr))
    clear hr O3
    have KO:=Lib.hid (own_any L.a2 L.c2 b.bt w4a (HRD.out.below OB.out.bx).r2 (by omega))
    go_simp
    go_wp2_with (go_at_call 154;refine KO.out.mono ?_;rintro e w4b ⟨A2,k2,rfl,ho,hb⟩;have O4:=Lib.hid (OB.out.call2 ho hb);clear ho hb OB KO)
    intro HT4
    refine wpAnyR_oneL HT4 (i:=8) (by kernel_rfl) rfl (by kernel_rfl) (fun w5a hr=>⟨bl_trans O4.out.bx hr,?_⟩)
    intro K hK
    have OB:=Lib.hid (O4.out.below (hr))
    clear hr O4
    have KO:=Lib.hid (own_any L.a3 L.c3 b.pd w5a (HRD.out.below OB.out.bx).r3 (by omega))
    go_simp
    go_wp2_with (go_at_call 154;refine KO.out.mono ?_;rintro e w5b ⟨A3,k3,rfl,ho,hb⟩;have O5:=Lib.hid (OB.out.call3 ho hb);clear ho hb OB KO)
    intro HT5
    refine wpAnyR_oneL HT5 (i:=12) (by kernel_rfl) rfl (by kernel_rfl) (fun w6a hr=>⟨bl_trans O5.out.bx hr,?_⟩)
    intro K hK
    have OB:=Lib.hid (O5.out.below (hr))
    clear hr O5
    try simp only [Act.put,List.setIfInBounds_toArray,List.set_cons_succ,List.set_cons_zero]
    refine wp_glueB (.tmp 12) (.tmp 14) rfl W1.heap.size _ [] b.fo L.a4 L.c4 rfl (OB.out.p gp rfl (by omega)) rfl (HRD.out.below OB.out.bx).r4 (by simp;omega) OB.out.bx.size ?_
    intro A4 k4 ws w6b e hn hg hd
    refine hK _ _ (fun HT6=>?_)
    clear hK K
    have O6:=Lib.hid (OB.out.app4 e hn hg hd)
    obtain rfl : ws = b.fo:=e
    clear hn hg hd OB
    refine wpAnyR_oneL HT6 (i:=16) (by kernel_rfl) rfl (by kernel_rfl) (fun w7a hr=>⟨bl_trans O6.out.bx hr,?_⟩)
    intro K hK
    have OB:=Lib.hid (O6.out.below (hr))
    clear hr O6
    try simp only [Act.put,List.setIfInBounds_toArray,List.set_cons_succ,List.set_cons_zero]
    refine wp_glueB (.tmp 16) (.tmp 18) rfl W1.heap.size _ [] b.ac L.a5 L.c5 rfl (OB.out.q gq rfl (by omega)) rfl (HRD.out.below OB.out.bx).r5 (by simp;omega) OB.out.bx.size ?_
    intro A5 k5 ws w7b e hn hg hd
    refine hK _ _ (fun HT7=>?_)
    clear hK K
    have O7:=Lib.hid (OB.out.app5 e hn hg hd)
    obtain rfl : ws = b.ac:=e
    clear hn hg hd OB
    refine wpAnyR_takeL (i:=25) (kw:=1) (v:=.agg #[.slice A1 b.st.length k1,.slice A2 b.bt.length k2,.slice A3 b.pd.length k3,.slice A4 b.fo.length k4,.slice A5 b.ac.length k5,.int .i64 b.tu,.int .i64 b.un,.int .i64 b.ra,.int .i64 b.li]) (fun _=>bl_refl _) (fun p q=>bl_trans p q) rfl rfl (by kernel_rfl) (by kernel_rfl) (by kernel_rfl) (by kernel_rfl) (fun _ _ _ h=>h) HT7 (Or.inl ⟨by kernel_rfl,fun W' hI=>?_⟩) (fun HCL=>?_)
    ·exact .inl (by go_simp)
    refine wpAnyR_lastL (by kernel_rfl) (by kernel_rfl) rfl (by kernel_rfl) (fun wR hrR=>⟨bl_trans O7.out.bx hrR,?_⟩)
    intro K hK
    have OR:=Lib.hid (O7.out.below hrR)
    have NZR:=Lib.hid (NZ.out.below OR.out.bx)
    have BR:=Lib.hid (bl_trans B.out OR.out.bx)
    clear hrR O7
    try simp only [Act.put,List.setIfInBounds_toArray,List.set_cons_succ,List.set_cons_zero]
    refine wp_store_blk 27 9 (.tmp 2) (.tmp 28) rfl iB (w.heap.size + 1) rfl [.slice A1 b.st.length k1,.slice A2 b.bt.length k2,.slice A3 b.pd.length k3,.slice A4 b.fo.length k4,.slice A5 b.ac.length k5,.int .i64 b.tu,.int .i64 b.un,.int .i64 b.ra,.int .i64 b.li] rfl rfl (by simp [Value.oneCell']) _ NZR.out rfl ?_
    intro w9 k9 g9
    refine hK _ _ ?_
    clear hK K
    go_wp2_with fail
    obtain ⟨z0,_⟩:=k9.cell 0 _ rfl
    obtain ⟨z1,_⟩:=k9.cell 1 _ rfl
    obtain ⟨z2,_⟩:=k9.cell 2 _ rfl
    obtain ⟨z3,_⟩:=k9.cell 3 _ rfl
    obtain ⟨z4,_⟩:=k9.cell 4 _ rfl
    obtain ⟨z5,_⟩:=k9.cell 5 _ rfl
    obtain ⟨z6,_⟩:=k9.cell 6 _ rfl
    obtain ⟨z7,_⟩:=k9.cell 7 _ rfl
    obtain ⟨z8,_⟩:=k9.cell 8 _ rfl
    exact bodyPost_ret (v:=.agg #[.slice A1 b.st.length k1,.slice A2 b.bt.length k2,.slice A3 b.pd.length k3,.slice A4 b.fo.length k4,.slice A5 b.ac.length k5,.int .i64 b.tu,.int .i64 b.un,.int .i64 b.ra,.int .i64 b.li]) (by simp [results,Try.results112,go_sem,z0,z1,z2,z3,z4,z5,z6,z7,z8]) rfl ⟨_,rfl,(OR.out.done.grownB' g9 (by have:=B.out.size;have:=NZ.out.lt;omega)).less (by have:=B.out.size;have:=NZ.out.lt;omega),below_grown1 BR.out g9 (by omega)⟩
 ·have OB:=Lib.hid (O0.out.below (bl_drewT hr))
  clear hr O0
  go_simp
  refine hK _ _ (fun HT1=>?_)
  clear hK K
  have O1:=Lib.hid (OB.out.mkP (by omega))
  clear OB
  obtain ⟨w1b,eM⟩ : ∃ wM,wM = w1a.alloc (.cells #[] 4):=⟨_,rfl⟩
  rw [← eM] at O1 ⊢
  clear eM
  generalize w1a.heap.size = gp at *
  refine wpAnyR_twoU HT1 (i:=2) (j:=13) (by kernel_rfl) rfl rfl (by kernel_rfl) (by kernel_rfl) (fun _ hr=>bl_trans O1.out.bx hr) (fun w2a hr K hK=>?_) (fun w2a hr K hK=>?_)
  ·have OB:=Lib.hid (O1.out.below (hr))
   clear hr O1
   have KO:=Lib.hid (own_any L.a1 L.c1 b.st w2a (HRD.out.below OB.out.bx).r1 (by omega))
   go_simp
   go_wp2_with (go_at_call 154;refine KO.out.mono ?_;rintro e w2b ⟨A1,k1,rfl,ho,hb⟩;have O2:=Lib.hid (OB.out.call1 ho hb);clear ho hb OB KO)
   intro HT2
   refine wpAnyR_twoU HT2 (i:=5) (j:=13) (by kernel_rfl) rfl rfl (by kernel_rfl) (by kernel_rfl) (fun _ hr=>bl_trans O2.out.bx hr) (fun w3a hr K hK=>?_) (fun w3a hr K hK=>?_)
   ·have OB:=Lib.hid (O2.out.below (hr))
    clear hr O2
    have KO:=Lib.hid (own_any L.a2 L.c2 b.bt w3a (HRD.out.below OB.out.bx).r2 (by omega))
    go_simp
    go_wp2_with (go_at_call 154;refine KO.out.mono ?_;rintro e w3b ⟨A2,k2,rfl,ho,hb⟩;have O3:=Lib.hid (OB.out.call2 ho hb);clear ho hb OB KO)
    intro HT3
    refine wpAnyR_twoU HT3 (i:=8) (j:=13) (by kernel_rfl) rfl rfl (by kernel_rfl) (by kernel_rfl) (fun _ hr=>bl_trans O3.out.bx hr) (fun w4a hr K hK=>?_) (fun w4a hr K hK=>?_)
    ·have OB:=Lib.hid (O3.out.below (hr))
     clear hr O3
     have KO:=Lib.hid (own_any L.a3 L.c3 b.pd w4a (HRD.out.below OB.out.bx).r3 (by omega))
     go_simp
     go_wp2_with (go_at_call 154;refine KO.out.mono ?_;rintro e w4b ⟨A3,k3,rfl,ho,hb⟩;have O4:=Lib.hid (OB.out.call3 ho hb);clear ho hb OB KO)
     intro HT4
     refine wpAnyR_twoU HT4 (i:=12) (j:=13) (by kernel_rfl) rfl rfl (by kernel_rfl) (by kernel_rfl) (fun _ hr=>bl_trans O4.out.bx hr) (fun w5a hr K hK=>?_) (fun w5a hr K hK=>?_)
     ·have OB:=Lib.hid (O4.out.below (hr))
      clear hr O4
      try simp only [Act.put,List.setIfInBounds_toArray,List.set_cons_succ,List.set_cons_zero]
      refine wp_glueB (.tmp 12) (.tmp 14) rfl W1.heap.size _ [] b.fo L.a4 L.c4 rfl (OB.out.p gp rfl (by omega)) rfl (HRD.out.below OB.out.bx).r4 (by simp;omega) OB.out.bx.size ?_
      intro A4 k4 ws w5b e hn hg hd
      refine hK _ _ (fun HT5=>?_)
      clear hK K
      have O5:=Lib.hid (OB.out.app4 e hn hg hd)
      obtain rfl : ws = b.fo:=e
      clear hn hg hd OB
      refine wpAnyR_oneL HT5 (i:=13) (by kernel_rfl) rfl (by kernel_rfl) (fun w6a hr=>⟨bl_trans O5.out.bx hr,?_⟩)
      intro K hK
      have OB:=Lib.hid (O5.out.below (hr))
      clear hr O5
      go_simp
      refine hK _ _ (fun HT6=>?_)
      clear hK K
      have O6:=Lib.hid (OB.out.mkQ (by omega))
      clear OB
      obtain ⟨w6b,eM⟩ : ∃ wM,wM = w6a.alloc (.cells #[] 4):=⟨_,rfl⟩
      rw [← eM] at O6 ⊢
      clear eM
      generalize w6a.heap.size = gq at *
      refine wpAnyR_oneL HT6 (i:=16) (by kernel_rfl) rfl (by kernel_rfl) (fun w7a hr=>⟨bl_trans O6.out.bx hr,?_⟩)
      intro K hK
      have OB:=Lib.hid (O6.out.below (hr))
      clear hr O6
      try simp only [Act.put,List.setIfInBounds_toArray,List.set_cons_succ,List.set_cons_zero]
      refine wp_glueB (.tmp 16) (.tmp 18) rfl W1.heap.size _ [] b.ac L.a5 L.c5 rfl (OB.out.q gq rfl (by omega)) rfl (HRD.out.below OB.out.bx).r5 (by simp;omega) OB.out.bx.size ?_
      intro A5 k5 ws w7b e hn hg hd
      refine hK _ _ (fun HT7=>?_)
      clear hK K
      have O7:=Lib.hid (OB.out.app5 e hn hg hd)
      obtain rfl : ws = b.ac:=e
      clear hn hg hd OB
      refine wpAnyR_takeL (i:=25) (kw:=1) (v:=.agg #[.slice A1 b.st.length k1,.slice A2 b.bt.length k2,.slice A3 b.pd.length k3,.slice A4 b.fo.length k4,.slice A5 b.ac.length k5,.int .i64 b.tu,.int .i64 b.un,.int .i64 b.ra,.int .i64 b.li]) (fun _=>bl_refl _) (fun p q=>bl_trans p q) rfl rfl (by kernel_rfl) (by kernel_rfl) (by kernel_rfl) (by kernel_rfl) (fun _ _ _ h=>h) HT7 (Or.inl ⟨by kernel_rfl,fun W' hI=>?_⟩) (fun HCL=>?_)
      ·exact .inl (by go_simp)
      refine wpAnyR_lastL (by kernel_rfl) (by kernel_rfl) rfl (by kernel_rfl) (fun wR hrR=>⟨bl_trans O7.out.bx hrR,?_⟩)
      intro K hK
      have OR:=Lib.hid (O7.out.below hrR)
      have NZR:=Lib.hid (NZ.out.below OR.out.bx)
      have BR:=Lib.hid (bl_trans B.out OR.out.bx)
      clear hrR O7
      try simp only [Act.put,List.setIfInBounds_toArray,List.set_cons_succ,List.set_cons_zero]
      refine wp_store_blk 27 9 (.tmp 2) (.tmp 28) rfl iB (w.heap.size + 1) rfl [.slice A1 b.st.length k1,.slice A2 b.bt.length k2,.slice A3 b.pd.length k3,.slice A4 b.fo.length k4,.slice A5 b.ac.length k5,.int .i64 b.tu,.int .i64 b.un,.int .i64 b.ra,.int .i64 b.li] rfl rfl (by simp [Value.oneCell']) _ NZR.out rfl ?_
      intro w9 k9 g9
      refine hK _ _ ?_
      clear hK K
      go_wp2_with fail
      obtain ⟨z0,_⟩:=k9.cell 0 _ rfl
      obtain ⟨z1,_⟩:=k9.cell 1 _ rfl
      obtain ⟨z2,_⟩:=k9.cell 2 _ rfl
      obtain ⟨z3,_⟩:=k9.cell 3 _ rfl
      obtain ⟨z4,_⟩:=k9.cell 4 _ rfl
      obtain ⟨z5,_⟩:=k9.cell 5 _ rfl
      obtain ⟨z6,_⟩:=k9.cell 6 _ rfl
      obtain ⟨z7,_⟩:=k9.cell 7 _ rfl
      obtain ⟨z8,_⟩:=k9.cell 8 _ rfl
      exact bodyPost_ret (v:=.agg #[.slice A1 b.st.length k1,.slice A2 b.bt.length k2,.slice A3 b.pd.length k3,.slice A4 b.fo.length k4,.slice A5 b.ac.length k5,.int .i64 b.tu,.int .i64 b.un,.int .i64 b.ra,.int .i64 b.li]) (by simp [results,Try.results112,go_sem,z0,z1,z2,z3,z4,z5,z6,z7,z8]) rfl ⟨_,rfl,(OR.out.done.grownB' g9 (by have:=B.out.size;have:=NZ.out.lt;omega)).less (by have:=B.out.size;have:=NZ.out.lt;omega),below_grown1 BR.out g9 (by omega)⟩
     ·have OB:=Lib.hid (O4.out.below (hr))
      clear hr O4
      go_simp
      refine hK _ _ (fun HT5=>?_)
      clear hK K
      have O5:=Lib.hid (OB.out.mkQ (by omega))
      clear OB
      obtain ⟨w5b,eM⟩ : ∃ wM,wM = w5a.alloc (.cells #[] 4):=⟨_,rfl⟩
      rw [← eM] at O5 ⊢
      clear eM
      generalize w5a.heap.size = gq at *
      refine wpAnyR_oneL HT5 (i:=12) (by kernel_rfl) rfl (by kernel_rfl) (fun w6a hr=>⟨bl_trans O5.out.bx hr,?_⟩)
      intro K hK
      have OB:=Lib.hid (O5.out.below (hr))
      clear hr O5
      try simp only [Act.put,List.setIfInBounds_toArray,List.set_cons_succ,List.set_cons_zero]
      refine wp_glueB (.tmp 12) (.tmp 14) rfl W1.heap.size _ [] b.fo L.a4 L.c4 rfl (OB.out.p gp rfl (by omega)) rfl (HRD.out.below OB.out.bx).r4 (by simp;omega) OB.out.bx.size ?_
      intro A4 k4 ws w6b e hn hg hd
      refine hK _ _ (fun HT6=>?_)
      clear hK K
      have O6:=Lib.hid (OB.out.app4 e hn hg hd)
      obtain rfl : ws = b.fo:=e
      clear hn hg hd OB
      refine wpAnyR_oneL HT6 (i:=16) (by kernel_rfl) rfl (by kernel_rfl) (fun w7a hr=>⟨bl_trans O6.out.bx hr,?_⟩)
      intro K hK
      have OB:=Lib.hid (O6.out.below (hr))
      clear hr O6
      try simp only [Act.put,List.setIfInBounds_toArray,List.set_cons_succ,List.set_cons_zero]
      refine wp_glueB (.tmp 16) (.tmp 18) rfl W1.heap.size _ [] b.ac L.a5 L.c5 rfl (OB.out.q gq rfl (by omega)) rfl (HRD.out.below OB.out.bx).r5 (by simp;omega) OB.out.bx.size ?_
      intro A5 k5 ws w7b e hn hg hd
      refine hK _ _ (fun HT7=>?_)
      clear hK K
      have O7:=Lib.hid (OB.out.app5 e hn hg hd)
      obtain rfl : ws = b.ac:=e
      clear hn hg hd OB
      refine wpAnyR_takeL (i:=25) (kw:=1) (v:=.agg #[.slice A1 b.st.length k1,.slice A2 b.bt.length k2,.slice A3 b.pd.length k3,.slice A4 b.fo.length k4,.slice A5 b.ac.length k5,.int .i64 b.tu,.int .i64 b.un,.int .i64 b.ra,.int .i64 b.li]) (fun _=>bl_refl _) (fun p q=>bl_trans p q) rfl rfl (by kernel_rfl) (by kernel_rfl) (by kernel_rfl) (by kernel_rfl) (fun _ _ _ h=>h) HT7 (Or.inl ⟨by kernel_rfl,fun W' hI=>?_⟩) (fun HCL=>?_)
      ·exact .inl (by go_simp)
      refine wpAnyR_lastL (by kernel_rfl) (by kernel_rfl) rfl (by kernel_rfl) (fun wR hrR=>⟨bl_trans O7.out.bx hrR,?_⟩)
      intro K hK
      have OR:=Lib.hid (O7.out.below hrR)
      have NZR:=Lib.hid (NZ.out.below OR.out.bx)
      have BR:=Lib.hid (bl_trans B.out OR.out.bx)
      clear hrR O7
      try simp only [Act.put,List.setIfInBounds_toArray,List.set_cons_succ,List.set_cons_zero]
      refine wp_store_blk 27 9 (.tmp 2) (.tmp 28) rfl iB (w.heap.size + 1) rfl [.slice A1 b.st.length k1,.slice A2 b.bt.length k2,.slice A3 b.pd.length k3,.slice A4 b.fo.length k4,.slice A5 b.ac.length k5,.int .i64 b.tu,.int .i64 b.un,.int .i64 b.ra,.int .i64 b.li] rfl rfl (by simp [Value.oneCell']) _ NZR.out rfl ?_
      intro w9 k9 g9
      refine hK _ _ ?_
      clear hK K
      go_wp2_with fail
      obtain ⟨z0,_⟩:=k9.cell 0 _ rfl
      obtain ⟨z1,_⟩:=k9.cell 1 _ rfl
      obtain ⟨z2,_⟩:=k9.cell 2 _ rfl
      obtain ⟨z3,_⟩:=k9.cell 3 _ rfl
      obtain ⟨z4,_⟩:=k9.cell 4 _ rfl
      obtain ⟨z5,_⟩:=k9.cell 5 _ rfl
      obtain ⟨z6,_⟩:=k9.cell 6 _ rfl
      obtain ⟨z7,_⟩:=k9.cell 7 _ rfl
      obtain ⟨z8,_⟩:=k9.cell 8 _ rfl
      exact bodyPost_ret (v:=.agg #[.slice A1 b.st.length k1,.slice A2 b.bt.length k2,.slice A3 b.pd.length k3,.slice A4 b.fo.length k4,.slice A5 b.ac.length k5,.int .i64 b.tu,.int .i64 b.un,.int .i64 b.ra,.int .i64 b.li]) (by simp [results,Try.results112,go_sem,z0,z1,z2,z3,z4,z5,z6,z7,z8]) rfl ⟨_,rfl,(OR.out.done.grownB' g9 (by have:=B.out.size;have:=NZ.out.lt;omega)).less (by have:=B.out.size;have:=NZ.out.lt;omega),below_grown1 BR.out g9 (by omega)⟩
    ·have OB:=Lib.hid (O3.out.below (hr))
     clear hr O3
     go_simp
     refine hK _ _ (fun HT4=>?_)
     clear hK K
     have O4:=Lib.hid (OB.out.mkQ (by omega))
     clear OB
     obtain ⟨w4b,eM⟩ : ∃ wM,wM = w4a.alloc (.cells #[] 4):=⟨_,rfl⟩
     rw [← eM] at O4 ⊢
     clear eM
     generalize w4a.heap.size = gq at *
     refine wpAnyR_oneL HT4 (i:=8) (by kernel_rfl) rfl (by kernel_rfl) (fun w5a hr=>⟨bl_trans O4.out.bx hr,?_⟩)
     intro K hK
     have OB:=Lib.hid (O4.out.below (hr))
     clear hr O4
     have KO:=Lib.hid (own_any L.a3 L.c3 b.pd w5a (HRD.out.below OB.out.bx).r3 (by omega))
     go_simp
     go_wp2_with (go_at_call 154;refine KO.out.mono ?_;rintro e w5b ⟨A3,k3,rfl,ho,hb⟩;have O5:=Lib.hid (OB.out.call3 ho hb);clear ho hb OB KO)
     intro HT5
     refine wpAnyR_oneL HT5 (i:=12) (by kernel_rfl) rfl (by kernel_rfl) (fun w6a hr=>⟨bl_trans O5.out.bx hr,?_⟩)
     intro K hK
     have OB:=Lib.hid (O5.out.below (hr))
     clear hr O5
     try simp only [Act.put,List.setIfInBounds_toArray,List.set_cons_succ,List.set_cons_zero]
     refine wp_glueB (.tmp 12) (.tmp 14) rfl W1.heap.size _ [] b.fo L.a4 L.c4 rfl (OB.out.p gp rfl (by omega)) rfl (HRD.out.below OB.out.bx).r4 (by simp;omega) OB.out.bx.size ?_
     intro A4 k4 ws w6b e hn hg hd
     refine hK _ _ (fun HT6=>?_)
     clear hK K
     have O6:=Lib.hid (OB.out.app4 e hn hg hd)
     obtain rfl : ws = b.fo:=e
     clear hn hg hd OB
     refine wpAnyR_oneL HT6 (i:=16) (by kernel_rfl) rfl (by kernel_rfl) (fun w7a hr=>⟨bl_trans O6.out.bx hr,?_⟩)
     intro K hK
     have OB:=Lib.hid (O6.out.below (hr))
     clear hr O6
     try simp only [Act.put,List.setIfInBounds_toArray,List.set_cons_succ,List.set_cons_zero]
     refine wp_glueB (.tmp 16) (.tmp 18) rfl W1.heap.size _ [] b.ac L.a5 L.c5 rfl (OB.out.q gq rfl (by omega)) rfl (HRD.out.below OB.out.bx).r5 (by simp;omega) OB.out.bx.size ?_
     intro A5 k5 ws w7b e hn hg hd
     refine hK _ _ (fun HT7=>?_)
     clear hK K
     have O7:=Lib.hid (OB.out.app5 e hn hg hd)
     obtain rfl : ws = b.ac:=e
     clear hn hg hd OB
     refine wpAnyR_takeL (i:=25) (kw:=1) (v:=.agg #[.slice A1 b.st.length k1,.slice A2 b.bt.length k2,.slice A3 b.pd.length k3,.slice A4 b.fo.length k4,.slice A5 b.ac.length k5,.int .i64 b.tu,.int .i64 b.un,.int .i64 b.ra,.int .i64 b.li]) (fun _=>bl_refl _) (fun p q=>bl_trans p q) rfl rfl (by kernel_rfl) (by kernel_rfl) (by kernel_rfl) (by kernel_rfl) (fun _ _ _ h=>h) HT7 (Or.inl ⟨by kernel_rfl,fun W' hI=>?_⟩) (fun HCL=>?_)
     ·exact .inl (by go_simp)
     refine wpAnyR_lastL (by kernel_rfl) (by kernel_rfl) rfl (by kernel_rfl) (fun wR hrR=>⟨bl_trans O7.out.bx hrR,?_⟩)
     intro K hK
     have OR:=Lib.hid (O7.out.below hrR)
     have NZR:=Lib.hid (NZ.out.below OR.out.bx)
     have BR:=Lib.hid (bl_trans B.out OR.out.bx)
     clear hrR O7
     try simp only [Act.put,List.setIfInBounds_toArray,List.set_cons_succ,List.set_cons_zero]
     refine wp_store_blk 27 9 (.tmp 2) (.tmp 28) rfl iB (w.heap.size + 1) rfl [.slice A1 b.st.length k1,.slice A2 b.bt.length k2,.slice A3 b.pd.length k3,.slice A4 b.fo.length k4,.slice A5 b.ac.length k5,.int .i64 b.tu,.int .i64 b.un,.int .i64 b.ra,.int .i64 b.li] rfl rfl (by simp [Value.oneCell']) _ NZR.out rfl ?_
     intro w9 k9 g9
     refine hK _ _ ?_
     clear hK K
     go_wp2_with fail
     obtain ⟨z0,_⟩:=k9.cell 0 _ rfl
     obtain ⟨z1,_⟩:=k9.cell 1 _ rfl
     obtain ⟨z2,_⟩:=k9.cell 2 _ rfl
     obtain ⟨z3,_⟩:=k9.cell 3 _ rfl
     obtain ⟨z4,_⟩:=k9.cell 4 _ rfl
     obtain ⟨z5,_⟩:=k9.cell 5 _ rfl
     obtain ⟨z6,_⟩:=k9.cell 6 _ rfl
     obtain ⟨z7,_⟩:=k9.cell 7 _ rfl
     obtain ⟨z8,_⟩:=k9.cell 8 _ rfl
     exact bodyPost_ret (v:=.agg #[.slice A1 b.st.length k1,.slice A2 b.bt.length k2,.slice A3 b.pd.length k3,.slice A4 b.fo.length k4,.slice A5 b.ac.length k5,.int .i64 b.tu,.int .i64 b.un,.int .i64 b.ra,.int .i64 b.li]) (by simp [results,Try.results112,go_sem,z0,z1,z2,z3,z4,z5,z6,z7,z8]) rfl ⟨_,rfl,(OR.out.done.grownB' g9 (by have:=B.out.size;have:=NZ.out.lt;omega)).less (by have:=B.out.size;have:=NZ.out.lt;omega),below_grown1 BR.out g9 (by omega)⟩
   ·have OB:=Lib.hid (O2.out.below (hr))
    clear hr O2
    go_simp
    refine hK _ _ (fun HT3=>?_)
    clear hK K
    have O3:=Lib.hid (OB.out.mkQ (by omega))
    clear OB
    obtain ⟨w3b,eM⟩ : ∃ wM,wM = w3a.alloc (.cells #[] 4):=⟨_,rfl⟩
    rw [← eM] at O3 ⊢
    clear eM
    generalize w3a.heap.size = gq at *
    refine wpAnyR_oneL HT3 (i:=5) (by kernel_rfl) rfl (by kernel_rfl) (fun w4a hr=>⟨bl_trans O3.out.bx hr,?_⟩)
    intro K hK
    have OB:=Lib.hid (O3.out.below (hr))
    clear hr O3
    have KO:=Lib.hid (own_any L.a2 L.c2 b.bt w4a (HRD.out.below OB.out.bx).r2 (by omega))
    go_simp
    go_wp2_with (go_at_call 154;refine KO.out.mono ?_;rintro e w4b ⟨A2,k2,rfl,ho,hb⟩;have O4:=Lib.hid (OB.out.call2 ho hb);clear ho hb OB KO)
    intro HT4
    refine wpAnyR_oneL HT4 (i:=8) (by kernel_rfl) rfl (by kernel_rfl) (fun w5a hr=>⟨bl_trans O4.out.bx hr,?_⟩)
    intro K hK
    have OB:=Lib.hid (O4.out.below (hr))
    clear hr O4
    have KO:=Lib.hid (own_any L.a3 L.c3 b.pd w5a (HRD.out.below OB.out.bx).r3 (by omega))
    go_simp
    go_wp2_with (go_at_call 154;refine KO.out.mono ?_;rintro e w5b ⟨A3,k3,rfl,ho,hb⟩;have O5:=Lib.hid (OB.out.call3 ho hb);clear ho hb OB KO)
    intro HT5
    refine wpAnyR_oneL HT5 (i:=12) (by kernel_rfl) rfl (by kernel_rfl) (fun w6a hr=>⟨bl_trans O5.out.bx hr,?_⟩)
    intro K hK
    have OB:=Lib.hid (O5.out.below (hr))
    clear hr O5
    try simp only [Act.put,List.setIfInBounds_toArray,List.set_cons_succ,List.set_cons_zero]
    refine wp_glueB (.tmp 12) (.tmp 14) rfl W1.heap.size _ [] b.fo L.a4 L.c4 rfl (OB.out.p gp rfl (by omega)) rfl (HRD.out.below OB.out.bx).r4 (by simp;omega) OB.out.bx.size ?_
    intro A4 k4 ws w6b e hn hg hd
    refine hK _ _ (fun HT6=>?_)
    clear hK K
    have O6:=Lib.hid (OB.out.app4 e hn hg hd)
    obtain rfl : ws = b.fo:=e
    clear hn hg hd OB
    refine wpAnyR_oneL HT6 (i:=16) (by kernel_rfl) rfl (by kernel_rfl) (fun w7a hr=>⟨bl_trans O6.out.bx hr,?_⟩)
    intro K hK
    have OB:=Lib.hid (O6.out.below (hr))
    clear hr O6
    try simp only [Act.put,List.setIfInBounds_toArray,List.set_cons_succ,List.set_cons_zero]
    refine wp_glueB (.tmp 16) (.tmp 18) rfl W1.heap.size _ [] b.ac L.a5 L.c5 rfl (OB.out.q gq rfl (by omega)) rfl (HRD.out.below OB.out.bx).r5 (by simp;omega) OB.out.bx.size ?_
    intro A5 k5 ws w7b e hn hg hd
    refine hK _ _ (fun HT7=>?_)
    clear hK K
    have O7:=Lib.hid (OB.out.app5 e hn hg hd)
    obtain rfl : ws = b.ac:=e
    clear hn hg hd OB
    refine wpAnyR_takeL (i:=25) (kw:=1) (v:=.agg #[.slice A1 b.st.length k1,.slice A2 b.bt.length k2,.slice A3 b.pd.length k3,.slice A4 b.fo.length k4,.slice A5 b.ac.length k5,.int .i64 b.tu,.int .i64 b.un,.int .i64 b.ra,.int .i64 b.li]) (fun _=>bl_refl _) (fun p q=>bl_trans p q) rfl rfl (by kernel_rfl) (by kernel_rfl) (by kernel_rfl) (by kernel_rfl) (fun _ _ _ h=>h) HT7 (Or.inl ⟨by kernel_rfl,fun W' hI=>?_⟩) (fun HCL=>?_)
    ·exact .inl (by go_simp)
    refine wpAnyR_lastL (by kernel_rfl) (by kernel_rfl) rfl (by kernel_rfl) (fun wR hrR=>⟨bl_trans O7.out.bx hrR,?_⟩)
    intro K hK
    have OR:=Lib.hid (O7.out.below hrR)
    have NZR:=Lib.hid (NZ.out.below OR.out.bx)
    have BR:=Lib.hid (bl_trans B.out OR.out.bx)
    clear hrR O7
    try simp only [Act.put,List.setIfInBounds_toArray,List.set_cons_succ,List.set_cons_zero]
    refine wp_store_blk 27 9 (.tmp 2) (.tmp 28) rfl iB (w.heap.size + 1) rfl [.slice A1 b.st.length k1,.slice A2 b.bt.length k2,.slice A3 b.pd.length k3,.slice A4 b.fo.length k4,.slice A5 b.ac.length k5,.int .i64 b.tu,.int .i64 b.un,.int .i64 b.ra,.int .i64 b.li] rfl rfl (by simp [Value.oneCell']) _ NZR.out rfl ?_
    intro w9 k9 g9
    refine hK _ _ ?_
    clear hK K
    go_wp2_with fail
    obtain ⟨z0,_⟩:=k9.cell 0 _ rfl
    obtain ⟨z1,_⟩:=k9.cell 1 _ rfl
    obtain ⟨z2,_⟩:=k9.cell 2 _ rfl
    obtain ⟨z3,_⟩:=k9.cell 3 _ rfl
    obtain ⟨z4,_⟩:=k9.cell 4 _ rfl
    obtain ⟨z5,_⟩:=k9.cell 5 _ rfl
    obtain ⟨z6,_⟩:=k9.cell 6 _ rfl
    obtain ⟨z7,_⟩:=k9.cell 7 _ rfl
    obtain ⟨z8,_⟩:=k9.cell 8 _ rfl
    exact bodyPost_ret (v:=.agg #[.slice A1 b.st.length k1,.slice A2 b.bt.length k2,.slice A3 b.pd.length k3,.slice A4 b.fo.length k4,.slice A5 b.ac.length k5,.int .i64 b.tu,.int .i64 b.un,.int .i64 b.ra,.int .i64 b.li]) (by simp [results,Try.results112,go_sem,z0,z1,z2,z3,z4,z5,z6,z7,z8]) rfl ⟨_,rfl,(OR.out.done.grownB' g9 (by have:=B.out.size;have:=NZ.out.lt;omega)).less (by have:=B.out.size;have:=NZ.out.lt;omega),below_grown1 BR.out g9 (by omega)⟩
  ·have OB:=Lib.hid (O1.out.below (hr))
   clear hr O1
   go_simp
   refine hK _ _ (fun HT2=>?_)
   clear hK K
   have O2:=Lib.hid (OB.out.mkQ (by omega))
   clear OB
   obtain ⟨w2b,eM⟩ : ∃ wM,wM = w2a.alloc (.cells #[] 4):=⟨_,rfl⟩
   rw [← eM] at O2 ⊢
   clear eM
   generalize w2a.heap.size = gq at *
   refine wpAnyR_oneL HT2 (i:=2) (by kernel_rfl) rfl (by kernel_rfl) (fun w3a hr=>⟨bl_trans O2.out.bx hr,?_⟩)
   intro K hK
   have OB:=Lib.hid (O2.out.below (hr))
   clear hr O2
   have KO:=Lib.hid (own_any L.a1 L.c1 b.st w3a (HRD.out.below OB.out.bx).r1 (by omega))
   go_simp
   go_wp2_with (go_at_call 154;refine KO.out.mono ?_;rintro e w3b ⟨A1,k1,rfl,ho,hb⟩;have O3:=Lib.hid (OB.out.call1 ho hb);clear ho hb OB KO)
   intro HT3
   refine wpAnyR_oneL HT3 (i:=5) (by kernel_rfl) rfl (by kernel_rfl) (fun w4a hr=>⟨bl_trans O3.out.bx hr,?_⟩)
   intro K hK
   have OB:=Lib.hid (O3.out.below (hr))
   clear hr O3
   have KO:=Lib.hid (own_any L.a2 L.c2 b.bt w4a (HRD.out.below OB.out.bx).r2 (by omega))
   go_simp
   go_wp2_with (go_at_call 154;refine KO.out.mono ?_;rintro e w4b ⟨A2,k2,rfl,ho,hb⟩;have O4:=Lib.hid (OB.out.call2 ho hb);clear ho hb OB KO)
   intro HT4
   refine wpAnyR_oneL HT4 (i:=8) (by kernel_rfl) rfl (by kernel_rfl) (fun w5a hr=>⟨bl_trans O4.out.bx hr,?_⟩)
   intro K hK
   have OB:=Lib.hid (O4.out.below (hr))
   clear hr O4
   have KO:=Lib.hid (own_any L.a3 L.c3 b.pd w5a (HRD.out.below OB.out.bx).r3 (by omega))
   go_simp
   go_wp2_with (go_at_call 154;refine KO.out.mono ?_;rintro e w5b ⟨A3,k3,rfl,ho,hb⟩;have O5:=Lib.hid (OB.out.call3 ho hb);clear ho hb OB KO)
   intro HT5
   refine wpAnyR_oneL HT5 (i:=12) (by kernel_rfl) rfl (by kernel_rfl) (fun w6a hr=>⟨bl_trans O5.out.bx hr,?_⟩)
   intro K hK
   have OB:=Lib.hid (O5.out.below (hr))
   clear hr O5
   try simp only [Act.put,List.setIfInBounds_toArray,List.set_cons_succ,List.set_cons_zero]
   refine wp_glueB (.tmp 12) (.tmp 14) rfl W1.heap.size _ [] b.fo L.a4 L.c4 rfl (OB.out.p gp rfl (by omega)) rfl (HRD.out.below OB.out.bx).r4 (by simp;omega) OB.out.bx.size ?_
   intro A4 k4 ws w6b e hn hg hd
   refine hK _ _ (fun HT6=>?_)
   clear hK K
   have O6:=Lib.hid (OB.out.app4 e hn hg hd)
   obtain rfl : ws = b.fo:=e
   clear hn hg hd OB
   refine wpAnyR_oneL HT6 (i:=16) (by kernel_rfl) rfl (by kernel_rfl) (fun w7a hr=>⟨bl_trans O6.out.bx hr,?_⟩)
   intro K hK
   have OB:=Lib.hid (O6.out.below (hr))
   clear hr O6
   try simp only [Act.put,List.setIfInBounds_toArray,List.set_cons_succ,List.set_cons_zero]
   refine wp_glueB (.tmp 16) (.tmp 18) rfl W1.heap.size _ [] b.ac L.a5 L.c5 rfl (OB.out.q gq rfl (by omega)) rfl (HRD.out.below OB.out.bx).r5 (by simp;omega) OB.out.bx.size ?_
   intro A5 k5 ws w7b e hn hg hd
   refine hK _ _ (fun HT7=>?_)
   clear hK K
   have O7:=Lib.hid (OB.out.app5 e hn hg hd)
   obtain rfl : ws = b.ac:=e
   clear hn hg hd OB
   refine wpAnyR_takeL (i:=25) (kw:=1) (v:=.agg #[.slice A1 b.st.length k1,.slice A2 b.bt.length k2,.slice A3 b.pd.length k3,.slice A4 b.fo.length k4,.slice A5 b.ac.length k5,.int .i64 b.tu,.int .i64 b.un,.int .i64 b.ra,.int .i64 b.li]) (fun _=>bl_refl _) (fun p q=>bl_trans p q) rfl rfl (by kernel_rfl) (by kernel_rfl) (by kernel_rfl) (by kernel_rfl) (fun _ _ _ h=>h) HT7 (Or.inl ⟨by kernel_rfl,fun W' hI=>?_⟩) (fun HCL=>?_)
   ·exact .inl (by go_simp)
   refine wpAnyR_lastL (by kernel_rfl) (by kernel_rfl) rfl (by kernel_rfl) (fun wR hrR=>⟨bl_trans O7.out.bx hrR,?_⟩)
   intro K hK
   have OR:=Lib.hid (O7.out.below hrR)
   have NZR:=Lib.hid (NZ.out.below OR.out.bx)
   have BR:=Lib.hid (bl_trans B.out OR.out.bx)
   clear hrR O7
   try simp only [Act.put,List.setIfInBounds_toArray,List.set_cons_succ,List.set_cons_zero]
   refine wp_store_blk 27 9 (.tmp 2) (.tmp 28) rfl iB (w.heap.size + 1) rfl [.slice A1 b.st.length k1,.slice A2 b.bt.length k2,.slice A3 b.pd.length k3,.slice A4 b.fo.length k4,.slice A5 b.ac.length k5,.int .i64 b.tu,.int .i64 b.un,.int .i64 b.ra,.int .i64 b.li] rfl rfl (by simp [Value.oneCell']) _ NZR.out rfl ?_
   intro w9 k9 g9
   refine hK _ _ ?_
   clear hK K
   go_wp2_with fail
   obtain ⟨z0,_⟩:=k9.cell 0 _ rfl
   obtain ⟨z1,_⟩:=k9.cell 1 _ rfl
   obtain ⟨z2,_⟩:=k9.cell 2 _ rfl
   obtain ⟨z3,_⟩:=k9.cell 3 _ rfl
   obtain ⟨z4,_⟩:=k9.cell 4 _ rfl
   obtain ⟨z5,_⟩:=k9.cell 5 _ rfl
   obtain ⟨z6,_⟩:=k9.cell 6 _ rfl
   obtain ⟨z7,_⟩:=k9.cell 7 _ rfl
   obtain ⟨z8,_⟩:=k9.cell 8 _ rfl
   exact bodyPost_ret (v:=.agg #[.slice A1 b.st.length k1,.slice A2 b.bt.length k2,.slice A3 b.pd.length k3,.slice A4 b.fo.length k4,.slice A5 b.ac.length k5,.int .i64 b.tu,.int .i64 b.un,.int .i64 b.ra,.int .i64 b.li]) (by simp [results,Try.results112,go_sem,z0,z1,z2,z3,z4,z5,z6,z7,z8]) rfl ⟨_,rfl,(OR.out.done.grownB' g9 (by have:=B.out.size;have:=NZ.out.lt;omega)).less (by have:=B.out.size;have:=NZ.out.lt;omega),below_grown1 BR.out g9 (by omega)⟩
 ·have OB:=Lib.hid (O0.out.below (bl_drewT hr))
  clear hr O0
  go_simp
  refine hK _ _ (fun HT1=>?_)
  clear hK K
  have O1:=Lib.hid (OB.out.mkQ (by omega))
  clear OB
  obtain ⟨w1b,eM⟩ : ∃ wM,wM = w1a.alloc (.cells #[] 4):=⟨_,rfl⟩
  rw [← eM] at O1 ⊢
  clear eM
  generalize w1a.heap.size = gq at *
  refine wpAnyR_twoU HT1 (i:=2) (j:=9) (by kernel_rfl) rfl rfl (by kernel_rfl) (by kernel_rfl) (fun _ hr=>bl_trans O1.out.bx hr) (fun w2a hr K hK=>?_) (fun w2a hr K hK=>?_)
  ·have OB:=Lib.hid (O1.out.below (hr))
   clear hr O1
   have KO:=Lib.hid (own_any L.a1 L.c1 b.st w2a (HRD.out.below OB.out.bx).r1 (by omega))
   go_simp
   go_wp2_with (go_at_call 154;refine KO.out.mono ?_;rintro e w2b ⟨A1,k1,rfl,ho,hb⟩;have O2:=Lib.hid (OB.out.call1 ho hb);clear ho hb OB KO)
   intro HT2
   refine wpAnyR_twoU HT2 (i:=5) (j:=9) (by kernel_rfl) rfl rfl (by kernel_rfl) (by kernel_rfl) (fun _ hr=>bl_trans O2.out.bx hr) (fun w3a hr K hK=>?_) (fun w3a hr K hK=>?_)
   ·have OB:=Lib.hid (O2.out.below (hr))
    clear hr O2
    have KO:=Lib.hid (own_any L.a2 L.c2 b.bt w3a (HRD.out.below OB.out.bx).r2 (by omega))
    go_simp
    go_wp2_with (go_at_call 154;refine KO.out.mono ?_;rintro e w3b ⟨A2,k2,rfl,ho,hb⟩;have O3:=Lib.hid (OB.out.call2 ho hb);clear ho hb OB KO)
    intro HT3
    refine wpAnyR_twoU HT3 (i:=8) (j:=9) (by kernel_rfl) rfl rfl (by kernel_rfl) (by kernel_rfl) (fun _ hr=>bl_trans O3.out.bx hr) (fun w4a hr K hK=>?_) (fun w4a hr K hK=>?_)
    ·have OB:=Lib.hid (O3.out.below (hr))
     clear hr O3
     have KO:=Lib.hid (own_any L.a3 L.c3 b.pd w4a (HRD.out.below OB.out.bx).r3 (by omega))
     go_simp
     go_wp2_with (go_at_call 154;refine KO.out.mono ?_;rintro e w4b ⟨A3,k3,rfl,ho,hb⟩;have O4:=Lib.hid (OB.out.call3 ho hb);clear ho hb OB KO)
     intro HT4
     refine wpAnyR_oneL HT4 (i:=9) (by kernel_rfl) rfl (by kernel_rfl) (fun w5a hr=>⟨bl_trans O4.out.bx hr,?_⟩)
     intro K hK
     have OB:=Lib.hid (O4.out.below (hr))
     clear hr O4
     go_simp
     refine hK _ _ (fun HT5=>?_)
     clear hK K
     have O5:=Lib.hid (OB.out.mkP (by omega))
     clear OB
     obtain ⟨w5b,eM⟩ : ∃ wM,wM = w5a.alloc (.cells #[] 4):=⟨_,rfl⟩
     rw [← eM] at O5 ⊢
     clear eM
     generalize w5a.heap.size = gp at *
     refine wpAnyR_oneL HT5 (i:=12) (by kernel_rfl) rfl (by kernel_rfl) (fun w6a hr=>⟨bl_trans O5.out.bx hr,?_⟩)
     intro K hK
     have OB:=Lib.hid (O5.out.below (hr))
     clear hr O5
     try simp only [Act.put,List.setIfInBounds_toArray,List.set_cons_succ,List.set_cons_zero]
     refine wp_glueB (.tmp 12) (.tmp 14) rfl W1.heap.size _ [] b.fo L.a4 L.c4 rfl (OB.out.p gp rfl (by omega)) rfl (HRD.out.below OB.out.bx).r4 (by simp;omega) OB.out.bx.size ?_
     intro A4 k4 ws w6b e hn hg hd
     refine hK _ _ (fun HT6=>?_)
     clear hK K
     have O6:=Lib.hid (OB.out.app4 e hn hg hd)
     obtain rfl : ws = b.fo:=e
     clear hn hg hd OB
     refine wpAnyR_oneL HT6 (i:=16) (by kernel_rfl) rfl (by kernel_rfl) (fun w7a hr=>⟨bl_trans O6.out.bx hr,?_⟩)
     intro K hK
     have OB:=Lib.hid (O6.out.below (hr))
     clear hr O6
     try simp only [Act.put,List.setIfInBounds_toArray,List.set_cons_succ,List.set_cons_zero]
     refine wp_glueB (.tmp 16) (.tmp 18) rfl W1.heap.size _ [] b.ac L.a5 L.c5 rfl (OB.out.q gq rfl (by omega)) rfl (HRD.out.below OB.out.bx).r5 (by simp;omega) OB.out.bx.size ?_
     intro A5 k5 ws w7b e hn hg hd
     refine hK _ _ (fun HT7=>?_)
     clear hK K
     have O7:=Lib.hid (OB.out.app5 e hn hg hd)
     obtain rfl : ws = b.ac:=e
     clear hn hg hd OB
     refine wpAnyR_takeL (i:=25) (kw:=1) (v:=.agg #[.slice A1 b.st.length k1,.slice A2 b.bt.length k2,.slice A3 b.pd.length k3,.slice A4 b.fo.length k4,.slice A5 b.ac.length k5,.int .i64 b.tu,.int .i64 b.un,.int .i64 b.ra,.int .i64 b.li]) (fun _=>bl_refl _) (fun p q=>bl_trans p q) rfl rfl (by kernel_rfl) (by kernel_rfl) (by kernel_rfl) (by kernel_rfl) (fun _ _ _ h=>h) HT7 (Or.inl ⟨by kernel_rfl,fun W' hI=>?_⟩) (fun HCL=>?_)
     ·exact .inl (by go_simp)
     refine wpAnyR_lastL (by kernel_rfl) (by kernel_rfl) rfl (by kernel_rfl) (fun wR hrR=>⟨bl_trans O7.out.bx hrR,?_⟩)
     intro K hK
     have OR:=Lib.hid (O7.out.below hrR)
     have NZR:=Lib.hid (NZ.out.below OR.out.bx)
     have BR:=Lib.hid (bl_trans B.out OR.out.bx)
     clear hrR O7
     try simp only [Act.put,List.setIfInBounds_toArray,List.set_cons_succ,List.set_cons_zero]
     refine wp_store_blk 27 9 (.tmp 2) (.tmp 28) rfl iB (w.heap.size + 1) rfl [.slice A1 b.st.length k1,.slice A2 b.bt.length k2,.slice A3 b.pd.length k3,.slice A4 b.fo.length k4,.slice A5 b.ac.length k5,.int .i64 b.tu,.int .i64 b.un,.int .i64 b.ra,.int .i64 b.li] rfl rfl (by simp [Value.oneCell']) _ NZR.out rfl ?_
     intro w9 k9 g9
     refine hK _ _ ?_
     clear hK K
     go_wp2_with fail
     obtain ⟨z0,_⟩:=k9.cell 0 _ rfl
     obtain ⟨z1,_⟩:=k9.cell 1 _ rfl
     obtain ⟨z2,_⟩:=k9.cell 2 _ rfl
     obtain ⟨z3,_⟩:=k9.cell 3 _ rfl
     obtain ⟨z4,_⟩:=k9.cell 4 _ rfl
     obtain ⟨z5,_⟩:=k9.cell 5 _ rfl
     obtain ⟨z6,_⟩:=k9.cell 6 _ rfl
     obtain ⟨z7,_⟩:=k9.cell 7 _ rfl
     obtain ⟨z8,_⟩:=k9.cell 8 _ rfl
     exact bodyPost_ret (v:=.agg #[.slice A1 b.st.length k1,.slice A2 b.bt.length k2,.slice A3 b.pd.length k3,.slice A4 b.fo.length k4,.slice A5 b.ac.length k5,.int .i64 b.tu,.int .i64 b.un,.int .i64 b.ra,.int .i64 b.li]) (by simp [results,Try.results112,go_sem,z0,z1,z2,z3,z4,z5,z6,z7,z8]) rfl ⟨_,rfl,(OR.out.done.grownB' g9 (by have:=B.out.size;have:=NZ.out.lt;omega)).less (by have:=B.out.size;have:=NZ.out.lt;omega),below_grown1 BR.out g9 (by omega)⟩
    ·have OB:=Lib.hid (O3.out.below (hr))
     clear hr O3
     go_simp
     refine hK _ _ (fun HT4=>?_)
     clear hK K
     have O4:=Lib.hid (OB.out.mkP (by omega))
     clear OB
     obtain ⟨w4b,eM⟩ : ∃ wM,wM = w4a.alloc (.cells #[] 4):=⟨_,rfl⟩
     rw [← eM] at O4 ⊢
     clear eM
     generalize w4a.heap.size = gp at *
     refine wpAnyR_oneL HT4 (i:=8) (by kernel_rfl) rfl (by kernel_rfl) (fun w5a hr=>⟨bl_trans O4.out.bx hr,?_⟩)
     intro K hK
     have OB:=Lib.hid (O4.out.below (hr))
     clear hr O4
     have KO:=Lib.hid (own_any L.a3 L.c3 b.pd w5a (HRD.out.below OB.out.bx).r3 (by omega))
     go_simp
     go_wp2_with (go_at_call 154;refine KO.out.mono ?_;rintro e w5b ⟨A3,k3,rfl,ho,hb⟩;have O5:=Lib.hid (OB.out.call3 ho hb);clear ho hb OB KO)
     intro HT5
     refine wpAnyR_oneL HT5 (i:=12) (by kernel_rfl) rfl (by kernel_rfl) (fun w6a hr=>⟨bl_trans O5.out.bx hr,?_⟩)
     intro K hK
     have OB:=Lib.hid (O5.out.below (hr))
     clear hr O5
     try simp only [Act.put,List.setIfInBounds_toArray,List.set_cons_succ,List.set_cons_zero]
     refine wp_glueB (.tmp 12) (.tmp 14) rfl W1.heap.size _ [] b.fo L.a4 L.c4 rfl (OB.out.p gp rfl (by omega)) rfl (HRD.out.below OB.out.bx).r4 (by simp;omega) OB.out.bx.size ?_
     intro A4 k4 ws w6b e hn hg hd
     refine hK _ _ (fun HT6=>?_)
     clear hK K
     have O6:=Lib.hid (OB.out.app4 e hn hg hd)
     obtain rfl : ws = b.fo:=e
     clear hn hg hd OB
     refine wpAnyR_oneL HT6 (i:=16) (by kernel_rfl) rfl (by kernel_rfl) (fun w7a hr=>⟨bl_trans O6.out.bx hr,?_⟩)
     intro K hK
     have OB:=Lib.hid (O6.out.below (hr))
     clear hr O6
     try simp only [Act.put,List.setIfInBounds_toArray,List.set_cons_succ,List.set_cons_zero]
     refine wp_glueB (.tmp 16) (.tmp 18) rfl W1.heap.size _ [] b.ac L.a5 L.c5 rfl (OB.out.q gq rfl (by omega)) rfl (HRD.out.below OB.out.bx).r5 (by simp;omega) OB.out.bx.size ?_
     intro A5 k5 ws w7b e hn hg hd
     refine hK _ _ (fun HT7=>?_)
     clear hK K
     have O7:=Lib.hid (OB.out.app5 e hn hg hd)
     obtain rfl : ws = b.ac:=e
     clear hn hg hd OB
     refine wpAnyR_takeL (i:=25) (kw:=1) (v:=.agg #[.slice A1 b.st.length k1,.slice A2 b.bt.length k2,.slice A3 b.pd.length k3,.slice A4 b.fo.length k4,.slice A5 b.ac.length k5,.int .i64 b.tu,.int .i64 b.un,.int .i64 b.ra,.int .i64 b.li]) (fun _=>bl_refl _) (fun p q=>bl_trans p q) rfl rfl (by kernel_rfl) (by kernel_rfl) (by kernel_rfl) (by kernel_rfl) (fun _ _ _ h=>h) HT7 (Or.inl ⟨by kernel_rfl,fun W' hI=>?_⟩) (fun HCL=>?_)
     ·exact .inl (by go_simp)
     refine wpAnyR_lastL (by kernel_rfl) (by kernel_rfl) rfl (by kernel_rfl) (fun wR hrR=>⟨bl_trans O7.out.bx hrR,?_⟩)
     intro K hK
     have OR:=Lib.hid (O7.out.below hrR)
     have NZR:=Lib.hid (NZ.out.below OR.out.bx)
     have BR:=Lib.hid (bl_trans B.out OR.out.bx)
     clear hrR O7
     try simp only [Act.put,List.setIfInBounds_toArray,List.set_cons_succ,List.set_cons_zero]
     refine wp_store_blk 27 9 (.tmp 2) (.tmp 28) rfl iB (w.heap.size + 1) rfl [.slice A1 b.st.length k1,.slice A2 b.bt.length k2,.slice A3 b.pd.length k3,.slice A4 b.fo.length k4,.slice A5 b.ac.length k5,.int .i64 b.tu,.int .i64 b.un,.int .i64 b.ra,.int .i64 b.li] rfl rfl (by simp [Value.oneCell']) _ NZR.out rfl ?_
     intro w9 k9 g9
     refine hK _ _ ?_
     clear hK K
     go_wp2_with fail
     obtain ⟨z0,_⟩:=k9.cell 0 _ rfl
     obtain ⟨z1,_⟩:=k9.cell 1 _ rfl
     obtain ⟨z2,_⟩:=k9.cell 2 _ rfl
     obtain ⟨z3,_⟩:=k9.cell 3 _ rfl
     obtain ⟨z4,_⟩:=k9.cell 4 _ rfl
     obtain ⟨z5,_⟩:=k9.cell 5 _ rfl
     obtain ⟨z6,_⟩:=k9.cell 6 _ rfl
     obtain ⟨z7,_⟩:=k9.cell 7 _ rfl
     obtain ⟨z8,_⟩:=k9.cell 8 _ rfl
     exact bodyPost_ret (v:=.agg #[.slice A1 b.st.length k1,.slice A2 b.bt.length k2,.slice A3 b.pd.length k3,.slice A4 b.fo.length k4,.slice A5 b.ac.length k5,.int .i64 b.tu,.int .i64 b.un,.int .i64 b.ra,.int .i64 b.li]) (by simp [results,Try.results112,go_sem,z0,z1,z2,z3,z4,z5,z6,z7,z8]) rfl ⟨_,rfl,(OR.out.done.grownB' g9 (by have:=B.out.size;have:=NZ.out.lt;omega)).less (by have:=B.out.size;have:=NZ.out.lt;omega),below_grown1 BR.out g9 (by omega)⟩
   ·have OB:=Lib.hid (O2.out.below (hr))
    clear hr O2
    go_simp
    refine hK _ _ (fun HT3=>?_)
    clear hK K
    have O3:=Lib.hid (OB.out.mkP (by omega))
    clear OB
    obtain ⟨w3b,eM⟩ : ∃ wM,wM = w3a.alloc (.cells #[] 4):=⟨_,rfl⟩
    rw [← eM] at O3 ⊢
    clear eM
    generalize w3a.heap.size = gp at *
    refine wpAnyR_oneL HT3 (i:=5) (by kernel_rfl) rfl (by kernel_rfl) (fun w4a hr=>⟨bl_trans O3.out.bx hr,?_⟩)
    intro K hK
    have OB:=Lib.hid (O3.out.below (hr))
    clear hr O3
    have KO:=Lib.hid (own_any L.a2 L.c2 b.bt w4a (HRD.out.below OB.out.bx).r2 (by omega))
    go_simp
    go_wp2_with (go_at_call 154;refine KO.out.mono ?_;rintro e w4b ⟨A2,k2,rfl,ho,hb⟩;have O4:=Lib.hid (OB.out.call2 ho hb);clear ho hb OB KO)
    intro HT4
    refine wpAnyR_oneL HT4 (i:=8) (by kernel_rfl) rfl (by kernel_rfl) (fun w5a hr=>⟨bl_trans O4.out.bx hr,?_⟩)
    intro K hK
    have OB:=Lib.hid (O4.out.below (hr))
    clear hr O4
    have KO:=Lib.hid (own_any L.a3 L.c3 b.pd w5a (HRD.out.below OB.out.bx).r3 (by omega))
    go_simp
    go_wp2_with (go_at_call 154;refine KO.out.mono ?_;rintro e w5b ⟨A3,k3,rfl,ho,hb⟩;have O5:=Lib.hid (OB.out.call3 ho hb);clear ho hb OB KO)
    intro HT5
    refine wpAnyR_oneL HT5 (i:=12) (by kernel_rfl) rfl (by kernel_rfl) (fun w6a hr=>⟨bl_trans O5.out.bx hr,?_⟩)
    intro K hK
    have OB:=Lib.hid (O5.out.below (hr))
    clear hr O5
    try simp only [Act.put,List.setIfInBounds_toArray,List.set_cons_succ,List.set_cons_zero]
    refine wp_glueB (.tmp 12) (.tmp 14) rfl W1.heap.size _ [] b.fo L.a4 L.c4 rfl (OB.out.p gp rfl (by omega)) rfl (HRD.out.below OB.out.bx).r4 (by simp;omega) OB.out.bx.size ?_
    intro A4 k4 ws w6b e hn hg hd
    refine hK _ _ (fun HT6=>?_)
    clear hK K
    have O6:=Lib.hid (OB.out.app4 e hn hg hd)
    obtain rfl : ws = b.fo:=e
    clear hn hg hd OB
    refine wpAnyR_oneL HT6 (i:=16) (by kernel_rfl) rfl (by kernel_rfl) (fun w7a hr=>⟨bl_trans O6.out.bx hr,?_⟩)
    intro K hK
    have OB:=Lib.hid (O6.out.below (hr))
    clear hr O6
    try simp only [Act.put,List.setIfInBounds_toArray,List.set_cons_succ,List.set_cons_zero]
    refine wp_glueB (.tmp 16) (.tmp 18) rfl W1.heap.size _ [] b.ac L.a5 L.c5 rfl (OB.out.q gq rfl (by omega)) rfl (HRD.out.below OB.out.bx).r5 (by simp;omega) OB.out.bx.size ?_
    intro A5 k5 ws w7b e hn hg hd
    refine hK _ _ (fun HT7=>?_)
    clear hK K
    have O7:=Lib.hid (OB.out.app5 e hn hg hd)
    obtain rfl : ws = b.ac:=e
    clear hn hg hd OB
    refine wpAnyR_takeL (i:=25) (kw:=1) (v:=.agg #[.slice A1 b.st.length k1,.slice A2 b.bt.length k2,.slice A3 b.pd.length k3,.slice A4 b.fo.length k4,.slice A5 b.ac.length k5,.int .i64 b.tu,.int .i64 b.un,.int .i64 b.ra,.int .i64 b.li]) (fun _=>bl_refl _) (fun p q=>bl_trans p q) rfl rfl (by kernel_rfl) (by kernel_rfl) (by kernel_rfl) (by kernel_rfl) (fun _ _ _ h=>h) HT7 (Or.inl ⟨by kernel_rfl,fun W' hI=>?_⟩) (fun HCL=>?_)
    ·exact .inl (by go_simp)
    refine wpAnyR_lastL (by kernel_rfl) (by kernel_rfl) rfl (by kernel_rfl) (fun wR hrR=>⟨bl_trans O7.out.bx hrR,?_⟩)
    intro K hK
    have OR:=Lib.hid (O7.out.below hrR)
    have NZR:=Lib.hid (NZ.out.below OR.out.bx)
    have BR:=Lib.hid (bl_trans B.out OR.out.bx)
    clear hrR O7
    try simp only [Act.put,List.setIfInBounds_toArray,List.set_cons_succ,List.set_cons_zero]
    refine wp_store_blk 27 9 (.tmp 2) (.tmp 28) rfl iB (w.heap.size + 1) rfl [.slice A1 b.st.length k1,.slice A2 b.bt.length k2,.slice A3 b.pd.length k3,.slice A4 b.fo.length k4,.slice A5 b.ac.length k5,.int .i64 b.tu,.int .i64 b.un,.int .i64 b.ra,.int .i64 b.li] rfl rfl (by simp [Value.oneCell']) _ NZR.out rfl ?_
    intro w9 k9 g9
    refine hK _ _ ?_
    clear hK K
    go_wp2_with fail
    obtain ⟨z0,_⟩:=k9.cell 0 _ rfl
    obtain ⟨z1,_⟩:=k9.cell 1 _ rfl
    obtain ⟨z2,_⟩:=k9.cell 2 _ rfl
    obtain ⟨z3,_⟩:=k9.cell 3 _ rfl
    obtain ⟨z4,_⟩:=k9.cell 4 _ rfl
    obtain ⟨z5,_⟩:=k9.cell 5 _ rfl
    obtain ⟨z6,_⟩:=k9.cell 6 _ rfl
    obtain ⟨z7,_⟩:=k9.cell 7 _ rfl
    obtain ⟨z8,_⟩:=k9.cell 8 _ rfl
    exact bodyPost_ret (v:=.agg #[.slice A1 b.st.length k1,.slice A2 b.bt.length k2,.slice A3 b.pd.length k3,.slice A4 b.fo.length k4,.slice A5 b.ac.length k5,.int .i64 b.tu,.int .i64 b.un,.int .i64 b.ra,.int .i64 b.li]) (by simp [results,Try.results112,go_sem,z0,z1,z2,z3,z4,z5,z6,z7,z8]) rfl ⟨_,rfl,(OR.out.done.grownB' g9 (by have:=B.out.size;have:=NZ.out.lt;omega)).less (by have:=B.out.size;have:=NZ.out.lt;omega),below_grown1 BR.out g9 (by omega)⟩
  ·have OB:=Lib.hid (O1.out.below (hr))
   clear hr O1
   go_simp
   refine hK _ _ (fun HT2=>?_)
   clear hK K
   have O2:=Lib.hid (OB.out.mkP (by omega))
   clear OB
   obtain ⟨w2b,eM⟩ : ∃ wM,wM = w2a.alloc (.cells #[] 4):=⟨_,rfl⟩
   rw [← eM] at O2 ⊢
   clear eM
   generalize w2a.heap.size = gp at *
   refine wpAnyR_oneL HT2 (i:=2) (by kernel_rfl) rfl (by kernel_rfl) (fun w3a hr=>⟨bl_trans O2.out.bx hr,?_⟩)
   intro K hK
   have OB:=Lib.hid (O2.out.below (hr))
   clear hr O2
   have KO:=Lib.hid (own_any L.a1 L.c1 b.st w3a (HRD.out.below OB.out.bx).r1 (by omega))
   go_simp
   go_wp2_with (go_at_call 154;refine KO.out.mono ?_;rintro e w3b ⟨A1,k1,rfl,ho,hb⟩;have O3:=Lib.hid (OB.out.call1 ho hb);clear ho hb OB KO)
   intro HT3
   refine wpAnyR_oneL HT3 (i:=5) (by kernel_rfl) rfl (by kernel_rfl) (fun w4a hr=>⟨bl_trans O3.out.bx hr,?_⟩)
   intro K hK
   have OB:=Lib.hid (O3.out.below (hr))
   clear hr O3
   have KO:=Lib.hid (own_any L.a2 L.c2 b.bt w4a (HRD.out.below OB.out.bx).r2 (by omega))
   go_simp
   go_wp2_with (go_at_call 154;refine KO.out.mono ?_;rintro e w4b ⟨A2,k2,rfl,ho,hb⟩;have O4:=Lib.hid (OB.out.call2 ho hb);clear ho hb OB KO)
   intro HT4
   refine wpAnyR_oneL HT4 (i:=8) (by kernel_rfl) rfl (by kernel_rfl) (fun w5a hr=>⟨bl_trans O4.out.bx hr,?_⟩)
   intro K hK
   have OB:=Lib.hid (O4.out.below (hr))
   clear hr O4
   have KO:=Lib.hid (own_any L.a3 L.c3 b.pd w5a (HRD.out.below OB.out.bx).r3 (by omega))
   go_simp
   go_wp2_with (go_at_call 154;refine KO.out.mono ?_;rintro e w5b ⟨A3,k3,rfl,ho,hb⟩;have O5:=Lib.hid (OB.out.call3 ho hb);clear ho hb OB KO)
   intro HT5
   refine wpAnyR_oneL HT5 (i:=12) (by kernel_rfl) rfl (by kernel_rfl) (fun w6a hr=>⟨bl_trans O5.out.bx hr,?_⟩)
   intro K hK
   have OB:=Lib.hid (O5.out.below (hr))
   clear hr O5
   try simp only [Act.put,List.setIfInBounds_toArray,List.set_cons_succ,List.set_cons_zero]
   refine wp_glueB (.tmp 12) (.tmp 14) rfl W1.heap.size _ [] b.fo L.a4 L.c4 rfl (OB.out.p gp rfl (by omega)) rfl (HRD.out.below OB.out.bx).r4 (by simp;omega) OB.out.bx.size ?_
   intro A4 k4 ws w6b e hn hg hd
   refine hK _ _ (fun HT6=>?_)
   clear hK K
   have O6:=Lib.hid (OB.out.app4 e hn hg hd)
   obtain rfl : ws = b.fo:=e
   clear hn hg hd OB
   refine wpAnyR_oneL HT6 (i:=16) (by kernel_rfl) rfl (by kernel_rfl) (fun w7a hr=>⟨bl_trans O6.out.bx hr,?_⟩)
   intro K hK
   have OB:=Lib.hid (O6.out.below (hr))
   clear hr O6
   try simp only [Act.put,List.setIfInBounds_toArray,List.set_cons_succ,List.set_cons_zero]
   refine wp_glueB (.tmp 16) (.tmp 18) rfl W1.heap.size _ [] b.ac L.a5 L.c5 rfl (OB.out.q gq rfl (by omega)) rfl (HRD.out.below OB.out.bx).r5 (by simp;omega) OB.out.bx.size ?_
   intro A5 k5 ws w7b e hn hg hd
   refine hK _ _ (fun HT7=>?_)
   clear hK K
   have O7:=Lib.hid (OB.out.app5 e hn hg hd)
   obtain rfl : ws = b.ac:=e
   clear hn hg hd OB
   refine wpAnyR_takeL (i:=25) (kw:=1) (v:=.agg #[.slice A1 b.st.length k1,.slice A2 b.bt.length k2,.slice A3 b.pd.length k3,.slice A4 b.fo.length k4,.slice A5 b.ac.length k5,.int .i64 b.tu,.int .i64 b.un,.int .i64 b.ra,.int .i64 b.li]) (fun _=>bl_refl _) (fun p q=>bl_trans p q) rfl rfl (by kernel_rfl) (by kernel_rfl) (by kernel_rfl) (by kernel_rfl) (fun _ _ _ h=>h) HT7 (Or.inl ⟨by kernel_rfl,fun W' hI=>?_⟩) (fun HCL=>?_)
   ·exact .inl (by go_simp)
   refine wpAnyR_lastL (by kernel_rfl) (by kernel_rfl) rfl (by kernel_rfl) (fun wR hrR=>⟨bl_trans O7.out.bx hrR,?_⟩)
   intro K hK
   have OR:=Lib.hid (O7.out.below hrR)
   have NZR:=Lib.hid (NZ.out.below OR.out.bx)
   have BR:=Lib.hid (bl_trans B.out OR.out.bx)
   clear hrR O7
   try simp only [Act.put,List.setIfInBounds_toArray,List.set_cons_succ,List.set_cons_zero]
   refine wp_store_blk 27 9 (.tmp 2) (.tmp 28) rfl iB (w.heap.size + 1) rfl [.slice A1 b.st.length k1,.slice A2 b.bt.length k2,.slice A3 b.pd.length k3,.slice A4 b.fo.length k4,.slice A5 b.ac.length k5,.int .i64 b.tu,.int .i64 b.un,.int .i64 b.ra,.int .i64 b.li] rfl rfl (by simp [Value.oneCell']) _ NZR.out rfl ?_
   intro w9 k9 g9
   refine hK _ _ ?_
   clear hK K
   go_wp2_with fail
   obtain ⟨z0,_⟩:=k9.cell 0 _ rfl
   obtain ⟨z1,_⟩:=k9.cell 1 _ rfl
   obtain ⟨z2,_⟩:=k9.cell 2 _ rfl
   obtain ⟨z3,_⟩:=k9.cell 3 _ rfl
   obtain ⟨z4,_⟩:=k9.cell 4 _ rfl
   obtain ⟨z5,_⟩:=k9.cell 5 _ rfl
   obtain ⟨z6,_⟩:=k9.cell 6 _ rfl
   obtain ⟨z7,_⟩:=k9.cell 7 _ rfl
   obtain ⟨z8,_⟩:=k9.cell 8 _ rfl
   exact bodyPost_ret (v:=.agg #[.slice A1 b.st.length k1,.slice A2 b.bt.length k2,.slice A3 b.pd.length k3,.slice A4 b.fo.length k4,.slice A5 b.ac.length k5,.int .i64 b.tu,.int .i64 b.un,.int .i64 b.ra,.int .i64 b.li]) (by simp [results,Try.results112,go_sem,z0,z1,z2,z3,z4,z5,z6,z7,z8]) rfl ⟨_,rfl,(OR.out.done.grownB' g9 (by have:=B.out.size;have:=NZ.out.lt;omega)).less (by have:=B.out.size;have:=NZ.out.lt;omega),below_grown1 BR.out g9 (by omega)⟩
end Go.Proofs.Ytnllndcajdofjaa
