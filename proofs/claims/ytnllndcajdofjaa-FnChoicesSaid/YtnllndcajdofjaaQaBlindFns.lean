/-
 Blinds: the model's and the program's.
-/
import Derived.Test.YtnllndcajdofjaaQaDrawActG
import Derived.Test.YtnllndcajdofjaaQaAnySG
namespace Go.Proofs.Ytnllndcajdofjaa
open Go.RowKit
set_option linter.unusedVariables false

/-- A number is written into a row of the call's own. -/
theorem own_set {w : World} {lo g : Nat} {xs : List Int} (h : Own w lo (.slice (some ⟨g,0,none⟩) xs.length xs.length) xs) (i : Nat) (u : Int) :
  Own (w.setCell ⟨g,i,none⟩ (.int .i64 u)) lo (.slice (some ⟨g,0,none⟩) (xs.set i u).length (xs.set i u).length) (xs.set i u) ∧ w.grownBy (w.setCell ⟨g,i,none⟩ (.int .i64 u)) (some g):=by
 have h1:=World.ownsRow.stored h i (.int .i64 u)
 rw [ints_set] at h1
 unfold Own
 rw [List.length_set]
 exact h1
theorem own_at {w : World} {lo g : Nat} {xs : List Int} (h : Own w lo (.slice (some ⟨g,0,none⟩) xs.length xs.length) xs) (i : Nat) (hi : i < xs.length) :
  w.cell? ⟨g,i,none⟩ = some (.int .i64 (nth xs i)) ∧ w.frozen? ⟨g,i,none⟩ = false :=
 ⟨by rw [World.ownsRow.cellAt h i (by omega),ints_get _ _ hi],World.ownsRow.frozenAt h i⟩
theorem blindL_form (xs : List Int) (b s g a : Int) (i j : Nat) (hi : smallI xs.length b = i) (hj : bigI xs.length b = j) :
  blindL xs b s g a = ((List.replicate xs.length (0 : Int)).set i (minT s (nth xs i - minT a (nth xs i)))).set j (minT g (nth xs j - minT a (nth xs j))):=by
 unfold blindL blindV
 rw [hi,hj,Int.toNat_natCast,Int.toNat_natCast]
set_option maxRecDepth 100000 in
set_option maxHeartbeats 4000000 in
theorem specBets_any (A : Option Addr) (c : Nat) (xs : List Int) (b s g a l : Int) (w : World) (hr : Rd w A xs) (hv : tabB xs b s g a l = true) :
  Calls Try.prog 161 #[tV A xs.length c b s g a l] w (NewL (blindL xs b s g a) w):=by
 have tt:=tab_iff.1 hv
 have h2:=tt.1
 have h6:=tt.2.1
 have hb0:=tt.2.2.2.1
 have hb1:=tt.2.2.2.2.1
 have hst:=tt.2.2.1
 have ha0 : 0 ≤ a:=by omega
 have hs0 : 0 ≤ s ∧ s ≤ 100000:=by omega
 have hg0 : 0 ≤ g ∧ g ≤ 100000:=by omega
 have KB:=Lib.hid (fun W : World=>specBlinds_any A c xs b s g a l W h2 h6 hb0 hb1)
 have KA:=Lib.hid (fun (W : World) (h : Below w.heap.size w W)=>specAntes_any A c xs b s g a l W (hr.below h) h6)
 have hsm:=small_bd xs.length b (by omega) hb0 hb1
 have hbg:=big_bd xs.length b (by omega)
 obtain ⟨i,ei⟩:=Int.eq_ofNat_of_zero_le hsm.1
 obtain ⟨j,ej⟩:=Int.eq_ofNat_of_zero_le hbg.1
 rw [blindL_form xs b s g a i j ei ej]
 rw [ei,ej] at KB
 have hi : i < xs.length:=by omega
 have hj : j < xs.length:=by omega
 have hi' : (i : Int) < xs.length:=by omega
 have hj' : (j : Int) < xs.length:=by omega
 have KNi:=anteL_nth xs a i hi
 have KNj:=anteL_nth xs a j hj
 have HAL:=anteL_len xs a
 obtain ⟨bA,oA,rfl,hc⟩:=hr (by omega)
 have HCI : Hid (∀ W',Below w.heap.size w W' → W'.cell? ⟨bA,oA + i,none⟩ = some (.int .i64 (nth xs i))):=Lib.hid (fun W' h=>(h.cell (p:=⟨bA,oA + i,none⟩) (World.block_lt_of_cell? w _ (hc i hi))).trans (hc i hi))
 have HCJ : Hid (∀ W',Below w.heap.size w W' → W'.cell? ⟨bA,oA + j,none⟩ = some (.int .i64 (nth xs j))):=Lib.hid (fun W' h=>(h.cell (p:=⟨bA,oA + j,none⟩) (World.block_lt_of_cell? w _ (hc j hj))).trans (hc j hj))
 have hmx : Try.prog.follows .mixedOrders = true:=by kernel_rfl
 have hxi:=hst i hi
 have hxj:=hst j hj
 have mi:=minT_le a (nth xs i)
 have mj:=minT_le a (nth xs j)
 obtain ⟨i0,hi0,hz0,hz1,hz2⟩:=info_parts infoInt
 obtain ⟨us,eu⟩ : ∃ us,us = anteL xs a:=⟨_,rfl⟩
 rw [← eu] at KA KNi KNj HAL
 clear hr hc tt hst hsm hbg ei ej hv eu hb0 hb1
 generalize nth xs i = x at *
 generalize nth xs j = y at *
 generalize ex : minT a x = p at *
 generalize ey : minT a y = r at *
 clear ex ey
 have wp : IntKind.i64.wrap (x - p) = x - p:=IntWalk.i64_in _ (by omega)
 have wr : IntKind.i64.wrap (y - r) = y - r:=IntWalk.i64_in _ (by omega)
 have n0:=blk_new w 49 [.slice (some ⟨bA,oA,none⟩) xs.length c,.int .i64 b,.int .i64 s,.int .i64 g,.int .i64 a,.int .i64 l]
 have N0:=Lib.hid n0
 have B:=Lib.hid (bl_alloc (bl_refl w) (.cells ([.slice (some ⟨bA,oA,none⟩) xs.length c,.int .i64 b,.int .i64 s,.int .i64 g,.int .i64 a,.int .i64 l] : List Value).toArray 49))
 clear n0
 unfold tV at *
 have HUL:=Lib.hid HAL
 have HKI:=Lib.hid KNi
 have HKJ:=Lib.hid KNj
 clear HAL KNi KNj
 go_enter Try.func161,Try.ntmps161
 go_wp2_with (first
  | (go_at_call 160;refine (KA.out _ B.out).mono ?_;rintro e w2 ⟨A2,c2,rfl,ho,hb⟩;have HO:=Lib.hid ho;have N1:=Lib.hid (N0.out.below hb);have B1:=Lib.hid (bl_trans B.out hb);clear hb ho;obtain ⟨q0,_⟩:=N1.out.cell 0 _ rfl)
  | (at_make;refine wpList_make_full _ rfl _ _ 24 rfl _ 2 i0 (.int .i64 0) 1 Try.underlying24 hi0 hz0 hz1 .i64 .i64 _ _ xs.length rfl rfl rfl rfl ?c1 ?c2 (Nat.le_refl _) ?_))
 case c1=>rw [hz2];omega
 case c2=>unfold maxLen;omega
 intro w3 hown hgrow
 have hb3 : Below w2.heap.size w2 w3:=(bl_refl _).grown hgrow (Nat.le_refl _) (fun j hj=>by cases hj)
 have HZ : Hid (Own w3 w2.heap.size (.slice (some ⟨w2.heap.size,0,none⟩) (List.replicate xs.length (0 : Int)).length (List.replicate xs.length (0 : Int)).length) (List.replicate xs.length (0 : Int))):=Lib.hid (by
  have e : (madeCells #[Value.int .i64 0] xs.length).toList = ints (List.replicate xs.length 0):=by
   rw [← ints_zeros];exact toList_madeCells_one _ _
  rw [e] at hown
  unfold Own
  rw [List.length_replicate]
  exact hown)
 have HA2:=Lib.hid (HO.out.rd.below hb3)
 have N2:=Lib.hid (N1.out.below hb3)
 have B2:=Lib.hid (bl_trans B1.out hb3)
 obtain ⟨zs,ez⟩ : ∃ zs,zs = List.replicate xs.length (0 : Int):=⟨_,rfl⟩
 have hzl : zs.length = xs.length:=by rw [ez];exact List.length_replicate
 rw [← ez] at HZ
 have EZ:=Lib.hid ez
 have HZL:=Lib.hid hzl
 clear q0 hown hgrow hb3 ez hzl
 obtain ⟨q0,_⟩:=N2.out.cell 0 _ rfl;obtain ⟨q1,_⟩:=N2.out.cell 1 _ rfl;obtain ⟨q2,_⟩:=N2.out.cell 2 _ rfl;obtain ⟨q3,_⟩:=N2.out.cell 3 _ rfl;obtain ⟨q4,_⟩:=N2.out.cell 4 _ rfl;obtain ⟨q5,_⟩:=N2.out.cell 5 _ rfl
 go_wp2_with (go_at_call 171;refine (KB.out _).mono ?_;rintro e w4 ⟨rfl,hb⟩;have HZ4:=Lib.hid (HZ.out.below hb);have HA4:=Lib.hid (HA2.out.below hb);have N4:=Lib.hid (N2.out.below hb);have B4:=Lib.hid (bl_trans B2.out hb);clear hb HZ HA2 N2 B2 q0 q1 q2 q3 q4 q5)
 have hzl4:=HZL.out
 obtain ⟨bU,oU,rfl,hcU⟩:=HA4.out (by rw [HUL.out];omega)
 have hiu : (i : Int) < us.length:=by rw [HUL.out];exact hi'
 have hju : (j : Int) < us.length:=by rw [HUL.out];exact hj'
 have hci:=hcU i (by rw [HUL.out];exact hi)
 have hcj:=hcU j (by rw [HUL.out];exact hj)
 rw [HKI.out] at hci
 rw [HKJ.out] at hcj
 have HUI : Hid (∀ W',Below w4.heap.size w4 W' → W'.cell? ⟨bU,oU + i,none⟩ = some (.int .i64 p)):=Lib.hid (fun W' h=>(h.cell (p:=⟨bU,oU + i,none⟩) (World.block_lt_of_cell? w4 _ hci)).trans hci)
 have HCJ4:=Lib.hid hcj
 have ULT : Hid (bU < w2.heap.size):=Lib.hid (HO.out.rd.lt (by rw [HUL.out];omega) (a:=⟨bU,oU,none⟩) rfl)
 have NLT:=Lib.hid N1.out.lt
 have N0:=N4
 have BN:=B4
 clear hcU hci hcj hzl4
 refine wp_region_R (R:=fun a b=>Below a.heap.size a b) (I:=fun W'=>Below w4.heap.size w4 W') (last:=16) (k:=16) (fun _=>bl_refl _) hmx rfl (fun HC0=>?_)
 refine wpAnyR_takeL (i:=0) (kw:=2) (v:=.slice (some ⟨w2.heap.size,0,none⟩) xs.length xs.length) (fun _=>bl_refl _) (fun p q=>bl_trans p q) rfl rfl (by kernel_rfl) (by kernel_rfl) (by kernel_rfl) (by kernel_rfl) (fun _ _ _ h=>h) HC0 (Or.inl ⟨by kernel_rfl,fun W' hI=>?_⟩) (fun HC1=>?_)
 ·exact .inl (by go_simp)
 refine wpAnyR_takeL (i:=1) (kw:=2) (v:=.int .i64 i) (fun _=>bl_refl _) (fun p q=>bl_trans p q) rfl rfl (by kernel_rfl) (by kernel_rfl) (by kernel_rfl) (by kernel_rfl) (fun _ _ _ h=>h) HC1 (Or.inl ⟨by kernel_rfl,fun W' hI=>?_⟩) (fun HC2=>?_)
 ·exact .inl (by go_simp)
 refine wpAnyR_takeL (i:=2) (kw:=2) (v:=.pointer (some ⟨w.heap.size,2,none⟩)) (fun _=>bl_refl _) (fun p q=>bl_trans p q) rfl rfl (by kernel_rfl) (by kernel_rfl) (by kernel_rfl) (by kernel_rfl) (fun _ _ _ h=>h) HC2 (Or.inl ⟨by kernel_rfl,fun W' hI=>?_⟩) (fun HC3=>?_)
 ·exact .inl (by go_simp)
 refine wpAnyR_takeL (i:=3) (kw:=2) (v:=.int .i64 s) (fun _=>bl_refl _) (fun p q=>bl_trans p q) rfl rfl (by kernel_rfl) (by kernel_rfl) (by kernel_rfl) (by kernel_rfl) (fun _ _ _ h=>h) HC3 (Or.inl ⟨by kernel_rfl,fun W' hI=>?_⟩) (fun HC4=>?_)
 ·have hv:=N0.out.below hI
  obtain ⟨q2,_⟩:=hv.cell 2 _ rfl
  exact .inl (by go_simp)
 refine wpAnyR_takeL (i:=4) (kw:=2) (v:=.pointer (some ⟨w.heap.size,0,none⟩)) (fun _=>bl_refl _) (fun p q=>bl_trans p q) rfl rfl (by kernel_rfl) (by kernel_rfl) (by kernel_rfl) (by kernel_rfl) (fun _ _ _ h=>h) HC4 (Or.inl ⟨by kernel_rfl,fun W' hI=>?_⟩) (fun HC5=>?_)
 ·exact .inl (by go_simp)
 refine wpAnyR_takeL (i:=5) (kw:=2) (v:=.slice (some ⟨bA,oA,none⟩) xs.length c) (fun _=>bl_refl _) (fun p q=>bl_trans p q) rfl rfl (by kernel_rfl) (by kernel_rfl) (by kernel_rfl) (by kernel_rfl) (fun _ _ _ h=>h) HC5 (Or.inl ⟨by kernel_rfl,fun W' hI=>?_⟩) (fun HC6=>?_)
 ·have hv:=N0.out.below hI
  obtain ⟨q0,_⟩:=hv.cell 0 _ rfl
  exact .inl (by go_simp)
 refine wpAnyR_takeL (i:=6) (kw:=2) (v:=.int .i64 i) (fun _=>bl_refl _) (fun p q=>bl_trans p q) rfl rfl (by kernel_rfl) (by kernel_rfl) (by kernel_rfl) (by kernel_rfl) (fun _ _ _ h=>h) HC6 (Or.inl ⟨by kernel_rfl,fun W' hI=>?_⟩) (fun HC7=>?_)
 ·exact .inl (by go_simp)
 refine wpAnyR_takeL (i:=7) (kw:=2) (v:=.pointer (some ⟨bA,oA + i,none⟩)) (fun _=>bl_refl _) (fun p q=>bl_trans p q) rfl rfl (by kernel_rfl) (by kernel_rfl) (by kernel_rfl) (by kernel_rfl) (fun _ _ _ h=>h) HC7 (Or.inl ⟨by kernel_rfl,fun W' hI=>?_⟩) (fun HC8=>?_)
 ·exact .inl (by go_simp)
 refine wpAnyR_takeL (i:=8) (kw:=2) (v:=.int .i64 x) (fun _=>bl_refl _) (fun p q=>bl_trans p q) rfl rfl (by kernel_rfl) (by kernel_rfl) (by kernel_rfl) (by kernel_rfl) (fun _ _ _ h=>h) HC8 (Or.inl ⟨by kernel_rfl,fun W' hI=>?_⟩) (fun HC9=>?_)
 ·have hx:=HCI.out W' (bl_trans BN.out hI)
  exact .inl (by go_simp)
 refine wpAnyR_takeL (i:=9) (kw:=2) (v:=.slice (some ⟨bU,oU,none⟩) us.length c2) (fun _=>bl_refl _) (fun p q=>bl_trans p q) rfl rfl (by kernel_rfl) (by kernel_rfl) (by kernel_rfl) (by kernel_rfl) (fun _ _ _ h=>h) HC9 (Or.inl ⟨by kernel_rfl,fun W' hI=>?_⟩) (fun HC10=>?_)
 ·exact .inl (by go_simp)
 refine wpAnyR_takeL (i:=10) (kw:=2) (v:=.int .i64 i) (fun _=>bl_refl _) (fun p q=>bl_trans p q) rfl rfl (by kernel_rfl) (by kernel_rfl) (by kernel_rfl) (by kernel_rfl) (fun _ _ _ h=>h) HC10 (Or.inl ⟨by kernel_rfl,fun W' hI=>?_⟩) (fun HC11=>?_)
 ·exact .inl (by go_simp)
 refine wpAnyR_takeL (i:=11) (kw:=2) (v:=.pointer (some ⟨bU,oU + i,none⟩)) (fun _=>bl_refl _) (fun p q=>bl_trans p q) rfl rfl (by kernel_rfl) (by kernel_rfl) (by kernel_rfl) (by kernel_rfl) (fun _ _ _ h=>h) HC11 (Or.inl ⟨by kernel_rfl,fun W' hI=>?_⟩) (fun HC12=>?_)
 ·exact .inl (by go_simp)
 refine wpAnyR_takeL (i:=12) (kw:=2) (v:=.int .i64 p) (fun _=>bl_refl _) (fun p q=>bl_trans p q) rfl rfl (by kernel_rfl) (by kernel_rfl) (by kernel_rfl) (by kernel_rfl) (fun _ _ _ h=>h) HC12 (Or.inl ⟨by kernel_rfl,fun W' hI=>?_⟩) (fun HC13=>?_)
 ·have hx:=HUI.out W' hI
  exact .inl (by go_simp)
 refine wpAnyR_takeL (i:=13) (kw:=2) (v:=.int .i64 (x - p)) (fun _=>bl_refl _) (fun p q=>bl_trans p q) rfl rfl (by kernel_rfl) (by kernel_rfl) (by kernel_rfl) (by kernel_rfl) (fun _ _ _ h=>h) HC13 (Or.inl ⟨by kernel_rfl,fun W' hI=>?_⟩) (fun HC14=>?_)
 ·exact .inl (by go_simp <;> exact IntWalk.i64_in _ (by omega))
 refine wpAnyR_takeL (i:=14) (kw:=2) (v:=.int .i64 (minT s (x - p))) (fun _=>bl_refl _) (fun p q=>bl_trans p q) rfl rfl (by kernel_rfl) (by kernel_rfl) (by kernel_rfl) (by kernel_rfl) (fun _ _ _ h=>h) HC14 (Or.inl ⟨by kernel_rfl,fun W' hI=>?_⟩) (fun HC15=>?_)
 ·refine .inl ?_
  unfold minT
  split <;> go_simp
 refine wpAnyR_takeL (i:=15) (kw:=2) (v:=.pointer (some ⟨w2.heap.size,i,none⟩)) (fun _=>bl_refl _) (fun p q=>bl_trans p q) rfl rfl (by kernel_rfl) (by kernel_rfl) (by kernel_rfl) (by kernel_rfl) (fun _ _ _ h=>h) HC15 (Or.inl ⟨by kernel_rfl,fun W' hI=>?_⟩) (fun HC16=>?_)
 ·exact .inl (by go_simp)
 refine wpAnyR_lastL (by kernel_rfl) (by kernel_rfl) rfl (by kernel_rfl) (fun w9 hr9=>⟨bl_drewT hr9,?_⟩)
 intro K hK
 have hb9:=bl_drewT hr9
 have HZ9:=Lib.hid (HZ4.out.below hb9)
 have cf9:=own_at HZ9.out i (by rw [HZL.out];exact hi)
 have c9:=cf9.1
 have f9:=cf9.2
 have S:=own_set HZ9.out i (minT s (x - p))
 have N9:=Lib.hid (N0.out.below hb9)
 have B9:=Lib.hid (bl_trans BN.out hb9)
 have C9 : Hid (w9.cell? ⟨bU,oU + j,none⟩ = some (.int .i64 r)):=Lib.hid ((hb9.cell (p:=⟨bU,oU + j,none⟩) (World.block_lt_of_cell? w4 _ HCJ4.out)).trans HCJ4.out)
 go_simp
 refine hK _ _ ?_
 clear hK K hr9 hb9 c9 f9 cf9
 obtain ⟨w5,e5⟩ : ∃ w5,w5 = w9.setCell ⟨w2.heap.size,i,none⟩ (.int .i64 (minT s (x - p))):=⟨_,rfl⟩
 rw [← e5] at S ⊢
 have C5 : Hid (w5.cell? ⟨bU,oU + j,none⟩ = some (.int .i64 r)):=Lib.hid (by rw [e5,World.cell?_setCell_other _ _ _ _ (by intro q;injection q with q1;have:=ULT.out;omega)];exact C9.out)
 clear HZ4 HZ9 N0 BN HCJ4 e5 C9
 have N0:=hb_grown N9 S.2 (by have:=NLT.out;omega)
 have BN:=hbl_grown B9 S.2 (by have:=NLT.out;omega)
 have HZ4:=Lib.hid S.1
 have HCJ4:=C5
 clear S C5 N9 B9
 clear HUI
 go_wp2_with fail
 have HUJ : Hid (∀ W',Below w5.heap.size w5 W' → W'.cell? ⟨bU,oU + j,none⟩ = some (.int .i64 r)):=Lib.hid (fun W' h=>(h.cell (p:=⟨bU,oU + j,none⟩) (World.block_lt_of_cell? w5 _ HCJ4.out)).trans HCJ4.out)
 refine wp_region_R (R:=fun a b=>Below a.heap.size a b) (I:=fun W'=>Below w5.heap.size w5 W') (last:=16) (k:=16) (fun _=>bl_refl _) hmx rfl (fun HC0=>?_)
 refine wpAnyR_takeL (i:=0) (kw:=2) (v:=.slice (some ⟨w2.heap.size,0,none⟩) xs.length xs.length) (fun _=>bl_refl _) (fun p q=>bl_trans p q) rfl rfl (by kernel_rfl) (by kernel_rfl) (by kernel_rfl) (by kernel_rfl) (fun _ _ _ h=>h) HC0 (Or.inl ⟨by kernel_rfl,fun W' hI=>?_⟩) (fun HC1=>?_)
 ·exact .inl (by go_simp)
 refine wpAnyR_takeL (i:=1) (kw:=2) (v:=.int .i64 j) (fun _=>bl_refl _) (fun p q=>bl_trans p q) rfl rfl (by kernel_rfl) (by kernel_rfl) (by kernel_rfl) (by kernel_rfl) (fun _ _ _ h=>h) HC1 (Or.inl ⟨by kernel_rfl,fun W' hI=>?_⟩) (fun HC2=>?_)
 ·exact .inl (by go_simp)
 refine wpAnyR_takeL (i:=2) (kw:=2) (v:=.pointer (some ⟨w.heap.size,3,none⟩)) (fun _=>bl_refl _) (fun p q=>bl_trans p q) rfl rfl (by kernel_rfl) (by kernel_rfl) (by kernel_rfl) (by kernel_rfl) (fun _ _ _ h=>h) HC2 (Or.inl ⟨by kernel_rfl,fun W' hI=>?_⟩) (fun HC3=>?_)
 ·exact .inl (by go_simp)
 refine wpAnyR_takeL (i:=3) (kw:=2) (v:=.int .i64 g) (fun _=>bl_refl _) (fun p q=>bl_trans p q) rfl rfl (by kernel_rfl) (by kernel_rfl) (by kernel_rfl) (by kernel_rfl) (fun _ _ _ h=>h) HC3 (Or.inl ⟨by kernel_rfl,fun W' hI=>?_⟩) (fun HC4=>?_)
 ·have hv:=N0.out.below hI
  obtain ⟨q3,_⟩:=hv.cell 3 _ rfl
  exact .inl (by go_simp)
 refine wpAnyR_takeL (i:=4) (kw:=2) (v:=.pointer (some ⟨w.heap.size,0,none⟩)) (fun _=>bl_refl _) (fun p q=>bl_trans p q) rfl rfl (by kernel_rfl) (by kernel_rfl) (by kernel_rfl) (by kernel_rfl) (fun _ _ _ h=>h) HC4 (Or.inl ⟨by kernel_rfl,fun W' hI=>?_⟩) (fun HC5=>?_)
 ·exact .inl (by go_simp)
 refine wpAnyR_takeL (i:=5) (kw:=2) (v:=.slice (some ⟨bA,oA,none⟩) xs.length c) (fun _=>bl_refl _) (fun p q=>bl_trans p q) rfl rfl (by kernel_rfl) (by kernel_rfl) (by kernel_rfl) (by kernel_rfl) (fun _ _ _ h=>h) HC5 (Or.inl ⟨by kernel_rfl,fun W' hI=>?_⟩) (fun HC6=>?_)
 ·have hv:=N0.out.below hI
  obtain ⟨q0,_⟩:=hv.cell 0 _ rfl
  exact .inl (by go_simp)
 refine wpAnyR_takeL (i:=6) (kw:=2) (v:=.int .i64 j) (fun _=>bl_refl _) (fun p q=>bl_trans p q) rfl rfl (by kernel_rfl) (by kernel_rfl) (by kernel_rfl) (by kernel_rfl) (fun _ _ _ h=>h) HC6 (Or.inl ⟨by kernel_rfl,fun W' hI=>?_⟩) (fun HC7=>?_)
 ·exact .inl (by go_simp)
 refine wpAnyR_takeL (i:=7) (kw:=2) (v:=.pointer (some ⟨bA,oA + j,none⟩)) (fun _=>bl_refl _) (fun p q=>bl_trans p q) rfl rfl (by kernel_rfl) (by kernel_rfl) (by kernel_rfl) (by kernel_rfl) (fun _ _ _ h=>h) HC7 (Or.inl ⟨by kernel_rfl,fun W' hI=>?_⟩) (fun HC8=>?_)
 ·exact .inl (by go_simp)
 refine wpAnyR_takeL (i:=8) (kw:=2) (v:=.int .i64 y) (fun _=>bl_refl _) (fun p q=>bl_trans p q) rfl rfl (by kernel_rfl) (by kernel_rfl) (by kernel_rfl) (by kernel_rfl) (fun _ _ _ h=>h) HC8 (Or.inl ⟨by kernel_rfl,fun W' hI=>?_⟩) (fun HC9=>?_)
 ·have hx:=HCJ.out W' (bl_trans BN.out hI)
  exact .inl (by go_simp)
 refine wpAnyR_takeL (i:=9) (kw:=2) (v:=.slice (some ⟨bU,oU,none⟩) us.length c2) (fun _=>bl_refl _) (fun p q=>bl_trans p q) rfl rfl (by kernel_rfl) (by kernel_rfl) (by kernel_rfl) (by kernel_rfl) (fun _ _ _ h=>h) HC9 (Or.inl ⟨by kernel_rfl,fun W' hI=>?_⟩) (fun HC10=>?_)
 ·exact .inl (by go_simp)
 refine wpAnyR_takeL (i:=10) (kw:=2) (v:=.int .i64 j) (fun _=>bl_refl _) (fun p q=>bl_trans p q) rfl rfl (by kernel_rfl) (by kernel_rfl) (by kernel_rfl) (by kernel_rfl) (fun _ _ _ h=>h) HC10 (Or.inl ⟨by kernel_rfl,fun W' hI=>?_⟩) (fun HC11=>?_)
 ·exact .inl (by go_simp)
 refine wpAnyR_takeL (i:=11) (kw:=2) (v:=.pointer (some ⟨bU,oU + j,none⟩)) (fun _=>bl_refl _) (fun p q=>bl_trans p q) rfl rfl (by kernel_rfl) (by kernel_rfl) (by kernel_rfl) (by kernel_rfl) (fun _ _ _ h=>h) HC11 (Or.inl ⟨by kernel_rfl,fun W' hI=>?_⟩) (fun HC12=>?_)
 ·exact .inl (by go_simp)
 refine wpAnyR_takeL (i:=12) (kw:=2) (v:=.int .i64 r) (fun _=>bl_refl _) (fun p q=>bl_trans p q) rfl rfl (by kernel_rfl) (by kernel_rfl) (by kernel_rfl) (by kernel_rfl) (fun _ _ _ h=>h) HC12 (Or.inl ⟨by kernel_rfl,fun W' hI=>?_⟩) (fun HC13=>?_)
 ·have hx:=HUJ.out W' hI
  exact .inl (by go_simp)
 refine wpAnyR_takeL (i:=13) (kw:=2) (v:=.int .i64 (y - r)) (fun _=>bl_refl _) (fun p q=>bl_trans p q) rfl rfl (by kernel_rfl) (by kernel_rfl) (by kernel_rfl) (by kernel_rfl) (fun _ _ _ h=>h) HC13 (Or.inl ⟨by kernel_rfl,fun W' hI=>?_⟩) (fun HC14=>?_)
 ·exact .inl (by go_simp <;> exact IntWalk.i64_in _ (by omega))
 refine wpAnyR_takeL (i:=14) (kw:=2) (v:=.int .i64 (minT g (y - r))) (fun _=>bl_refl _) (fun p q=>bl_trans p q) rfl rfl (by kernel_rfl) (by kernel_rfl) (by kernel_rfl) (by kernel_rfl) (fun _ _ _ h=>h) HC14 (Or.inl ⟨by kernel_rfl,fun W' hI=>?_⟩) (fun HC15=>?_)
 ·refine .inl ?_
  unfold minT
  split <;> go_simp
 refine wpAnyR_takeL (i:=15) (kw:=2) (v:=.pointer (some ⟨w2.heap.size,j,none⟩)) (fun _=>bl_refl _) (fun p q=>bl_trans p q) rfl rfl (by kernel_rfl) (by kernel_rfl) (by kernel_rfl) (by kernel_rfl) (fun _ _ _ h=>h) HC15 (Or.inl ⟨by kernel_rfl,fun W' hI=>?_⟩) (fun HC16=>?_)
 ·exact .inl (by go_simp)
 refine wpAnyR_lastL (by kernel_rfl) (by kernel_rfl) rfl (by kernel_rfl) (fun w9 hr9=>⟨bl_drewT hr9,?_⟩)
 intro K hK
 have hb9:=bl_drewT hr9
 have HZ9:=Lib.hid (HZ4.out.below hb9)
 have cf9:=own_at HZ9.out j (by rw [List.length_set,HZL.out];exact hj)
 have c9:=cf9.1
 have f9:=cf9.2
 have S:=own_set HZ9.out j (minT g (y - r))
 have N9:=Lib.hid (N0.out.below hb9)
 have B9:=Lib.hid (bl_trans BN.out hb9)
 have C9 : Hid (w9.cell? ⟨bU,oU + j,none⟩ = some (.int .i64 r)):=Lib.hid ((hb9.cell (p:=⟨bU,oU + j,none⟩) (World.block_lt_of_cell? w5 _ HCJ4.out)).trans HCJ4.out)
 go_simp
 refine hK _ _ ?_
 clear hK K hr9 hb9 c9 f9 cf9
 obtain ⟨w6,e6⟩ : ∃ w6,w6 = w9.setCell ⟨w2.heap.size,j,none⟩ (.int .i64 (minT g (y - r))):=⟨_,rfl⟩
 rw [← e6] at S ⊢
 have C5 : Hid (w6.cell? ⟨bU,oU + j,none⟩ = some (.int .i64 r)):=Lib.hid (by rw [e6,World.cell?_setCell_other _ _ _ _ (by intro q;injection q with q1;have:=ULT.out;omega)];exact C9.out)
 clear HZ4 HZ9 N0 BN HCJ4 e6 C9
 have N0:=hb_grown N9 S.2 (by have:=NLT.out;omega)
 have BN:=hbl_grown B9 S.2 (by have:=NLT.out;omega)
 have HZ4:=Lib.hid S.1
 have HCJ4:=C5
 clear S C5 N9 B9
 go_wp2_with fail
 go_ret
 rw [← EZ.out]
 have hl : ((zs.set i (minT s (x - p))).set j (minT g (y - r))).length = xs.length:=by simp only [List.length_set];exact HZL.out
 refine ⟨some ⟨w2.heap.size,0,none⟩,xs.length,by rw [hl];rfl,?_,BN.out⟩
 rw [hl]
 have h:=HZ4.out
 rw [hl] at h
 exact h.less (Nat.le_of_lt NLT.out)
end Go.Proofs.Ytnllndcajdofjaa
