/-
 Put together: BetDo, BetClr, BetRaise, BetNC
-/
import Derived.Test.YtnllndcajdofjaaQbBetEG
import Derived.Lib.SliceRun

/-! The program: fold, betMore, call. -/
namespace Go.Proofs.Ytnllndcajdofjaa
open Go.RowKit
set_option linter.unusedVariables false

theorem Row.cellAt {w : World} {lo g off : Nat} {xs : List Int} (h : Row w lo (some ⟨g,off,none⟩) xs) (k : Nat) (hk : k < xs.length) : w.cell? ⟨g,off + k,none⟩ = some (.int .i64 (nth xs k)) ∧ w.frozen? ⟨g,off + k,none⟩ = false:=by
 obtain ⟨g',off',e,hc⟩:=h.2 (by omega)
 injection e with e
 injection e with e1 e2
 subst e1 e2
 exact hc k hk
theorem RowB.cellAt {w : World} {lo g off : Nat} {xs : List Bool} (h : RowB w lo (some ⟨g,off,none⟩) xs) (k : Nat) (hk : k < xs.length) : w.cell? ⟨g,off + k,none⟩ = some (.bool (nthB xs k)) ∧ w.frozen? ⟨g,off + k,none⟩ = false:=by
 obtain ⟨g',off',e,hc⟩:=h.2 (by omega)
 injection e with e
 injection e with e1 e2
 subst e1 e2
 exact hc k hk
/-- What a method leaves that writes into its round. -/
def Did (g : Nat) (L : At5) (b' : Bt) (w : World) (e : Ending) (w' : World) : Prop:=e = .returned (.tuple #[]) ∧ NB w' g L b' ∧ Frm g w w'
set_option maxRecDepth 100000 in
set_option maxHeartbeats 2000000 in
theorem fold_any (g : Nat) (L : At5) (b : Bt) (x : Int) (w : World) (h : NB w g L b) (k : Sd b) (t0 : 0 ≤ b.tu) (t1 : b.tu < b.st.length) :
  Calls Try.prog 144 #[.pointer (some ⟨g,0,none⟩),.int .i64 x] w (Did g L (foldB b) w):=by
 have hmx : Try.prog.follows .mixedOrders = true:=by kernel_rfl
 obtain ⟨i,hi⟩:=Int.eq_ofNat_of_zero_le t0
 have l4:=k.l4
 have hil : i < b.fo.length:=by omega
 have d4 : (i : Int) < b.fo.length:=by omega
 obtain ⟨b4,o4,e4,hc4⟩:=h.rows.r4.rd.at_0 i hil
 have NBH:=Lib.hid h
 have HN : Hid (Blk w g 27 [.slice L.a1 b.st.length L.c1,.slice L.a2 b.bt.length L.c2,.slice L.a3 b.pd.length L.c3,.slice (some ⟨b4,o4,none⟩) b.fo.length L.c4,.slice L.a5 b.ac.length L.c5,.int .i64 i,.int .i64 b.un,.int .i64 b.ra,.int .i64 b.li]):=Lib.hid (by have q:=h.blk;unfold btL at q;rw [e4,hi] at q;exact q)
 have E4:=Lib.hid e4
 have HR : Hid (foldB b = { b with fo:=b.fo.set i true }):=Lib.hid (by unfold foldB;rw [hi];rfl)
 clear h k t0 t1 e4 hi hc4 l4
 go_enter Try.func144,Try.ntmps144
 go_wp2_with fail
 refine wp_region_W (last:=9) (k:=9) hmx rfl (fun HC0=>?_)
 refine wpAnyR_takeL (i:=0) (kw:=5) (v:=.pointer (some ⟨g,0,none⟩)) (fun _=>bl_refl _) (fun p q=>bl_trans p q) rfl rfl (by kernel_rfl) (by kernel_rfl) (by kernel_rfl) (by kernel_rfl) (fun _ _ _ h=>h) HC0 (Or.inl ⟨by kernel_rfl,fun W' hI=>?_⟩) (fun HC1=>?_)
 ·exact .inl (by go_simp)
 refine wpAnyR_takeL (i:=1) (kw:=4) (v:=.pointer (some ⟨g,0,none⟩)) (fun _=>bl_refl _) (fun p q=>bl_trans p q) rfl rfl (by kernel_rfl) (by kernel_rfl) (by kernel_rfl) (by kernel_rfl) (fun _ _ _ h=>h) HC1 (Or.inl ⟨by kernel_rfl,fun W' hI=>?_⟩) (fun HC2=>?_)
 ·exact .inl (by go_simp)
 refine wpAnyR_takeL (i:=2) (kw:=3) (v:=.pointer (some ⟨g,3,none⟩)) (fun _=>bl_refl _) (fun p q=>bl_trans p q) rfl rfl (by kernel_rfl) (by kernel_rfl) (by kernel_rfl) (by kernel_rfl) (fun _ _ _ h=>h) HC2 (Or.inl ⟨by kernel_rfl,fun W' hI=>?_⟩) (fun HC3=>?_)
 ·exact .inl (by go_simp)
 refine wpAnyR_takeL (i:=3) (kw:=2) (v:=.slice (some ⟨b4,o4,none⟩) b.fo.length L.c4) (fun _=>bl_refl _) (fun p q=>bl_trans p q) rfl rfl (by kernel_rfl) (by kernel_rfl) (by kernel_rfl) (by kernel_rfl) (fun _ _ _ h=>h) HC3 (Or.inl ⟨by kernel_rfl,fun W' hI=>?_⟩) (fun HC4=>?_)
 ·have hv:=(HN.out).below hI
  obtain ⟨z3,_⟩:=hv.cell 3 _ rfl
  exact .inl (by go_simp)
 refine wpAnyR_takeL (i:=4) (kw:=5) (v:=.pointer (some ⟨g,0,none⟩)) (fun _=>bl_refl _) (fun p q=>bl_trans p q) rfl rfl (by kernel_rfl) (by kernel_rfl) (by kernel_rfl) (by kernel_rfl) (fun _ _ _ h=>h) HC4 (Or.inl ⟨by kernel_rfl,fun W' hI=>?_⟩) (fun HC5=>?_)
 ·exact .inl (by go_simp)
 refine wpAnyR_takeL (i:=5) (kw:=4) (v:=.pointer (some ⟨g,0,none⟩)) (fun _=>bl_refl _) (fun p q=>bl_trans p q) rfl rfl (by kernel_rfl) (by kernel_rfl) (by kernel_rfl) (by kernel_rfl) (fun _ _ _ h=>h) HC5 (Or.inl ⟨by kernel_rfl,fun W' hI=>?_⟩) (fun HC6=>?_)
 ·exact .inl (by go_simp)
 refine wpAnyR_takeL (i:=6) (kw:=3) (v:=.pointer (some ⟨g,5,none⟩)) (fun _=>bl_refl _) (fun p q=>bl_trans p q) rfl rfl (by kernel_rfl) (by kernel_rfl) (by kernel_rfl) (by kernel_rfl) (fun _ _ _ h=>h) HC6 (Or.inl ⟨by kernel_rfl,fun W' hI=>?_⟩) (fun HC7=>?_)
 ·exact .inl (by go_simp)
 refine wpAnyR_takeL (i:=7) (kw:=2) (v:=.int .i64 i) (fun _=>bl_refl _) (fun p q=>bl_trans p q) rfl rfl (by kernel_rfl) (by kernel_rfl) (by kernel_rfl) (by kernel_rfl) (fun _ _ _ h=>h) HC7 (Or.inl ⟨by kernel_rfl,fun W' hI=>?_⟩) (fun HC8=>?_)
 ·have hv:=(HN.out).below hI
  obtain ⟨z5,_⟩:=hv.cell 5 _ rfl
  exact .inl (by go_simp)
 refine wpAnyR_takeL (i:=8) (kw:=1) (v:=.pointer (some ⟨b4,o4 + i,none⟩)) (fun _=>bl_refl _) (fun p q=>bl_trans p q) rfl rfl (by kernel_rfl) (by kernel_rfl) (by kernel_rfl) (by kernel_rfl) (fun _ _ _ h=>h) HC8 (Or.inl ⟨by kernel_rfl,fun W' hI=>?_⟩) (fun HC9=>?_)
 ·exact .inl (by go_simp)
 refine wpAnyR_lastL (by kernel_rfl) (by kernel_rfl) rfl (by kernel_rfl) (fun wR hrR=>⟨bl_drewT hrR,?_⟩)
 intro K hK
 have BR:=Lib.hid (bl_drewT hrR)
 clear hrR
 have NW:=Lib.hid (NBH.out.below BR.out)
 have r4:=NW.out.rows.r4
 rw [E4.out] at r4
 have c4:=(r4.cellAt i hil).1
 have f4:=(r4.cellAt i hil).2
 clear r4
 go_simp
 refine hK _ _ ?_
 clear hK K
 obtain ⟨s1,s2⟩:=NW.out.setFo E4.out i hil true
 clear c4 f4
 generalize wR.setCell ⟨b4,o4 + i,none⟩ (.bool true) = w5 at *
 go_wp2_with fail
 exact bodyPost_ret (v:=.tuple #[]) (by simp [results,Try.results144,go_sem]) rfl ⟨rfl,by rw [HR.out];exact s1,(Frm.of_below BR.out).trans s2⟩
set_option maxRecDepth 100000 in
set_option maxHeartbeats 4000000 in
theorem betMore_any (g : Nat) (L : At5) (b : Bt) (d : Int) (w : World) (h : NB w g L b) (k : Sd b) (s1 : inC b.st) (t0 : 0 ≤ b.tu) (t1 : b.tu < b.st.length) (hd0 : -10000000 ≤ d) (hd1 : d ≤ 10000000) :
  Calls Try.prog 168 #[.pointer (some ⟨g,0,none⟩),.int .i64 d] w (Did g L (more b d) w):=by
 have hmx : Try.prog.follows .mixedOrders = true:=by kernel_rfl
 obtain ⟨i,hi⟩:=Int.eq_ofNat_of_zero_le t0
 have l2:=k.l2
 have hil : i < b.st.length:=by omega
 have hil2 : i < b.bt.length:=by omega
 have d1 : (i : Int) < b.st.length:=by omega
 have d2 : (i : Int) < b.bt.length:=by omega
 have bx:=s1 i hil
 have byy:=k.s2 i hil2
 obtain ⟨b1,o1,e1,hc1⟩:=h.rows.r1.rd.at_0 i hil
 obtain ⟨b2,o2,e2,hc2⟩:=h.rows.r2.rd.at_0 i hil2
 have NBH:=Lib.hid h
 have HN : Hid (Blk w g 27 [.slice (some ⟨b1,o1,none⟩) b.st.length L.c1,.slice L.a2 b.bt.length L.c2,.slice L.a3 b.pd.length L.c3,.slice L.a4 b.fo.length L.c4,.slice L.a5 b.ac.length L.c5,.int .i64 i,.int .i64 b.un,.int .i64 b.ra,.int .i64 b.li]):=Lib.hid (by have q:=h.blk;unfold btL at q;rw [e1,hi] at q;exact q)
 have H1 : Hid (∀ W',Below w.heap.size w W' → W'.cell? ⟨b1,o1 + i,none⟩ = some (.int .i64 (nth b.st i))):=Lib.hid (fun W' hI=>(hI.cell (p:=⟨b1,o1 + i,none⟩) (World.block_lt_of_cell? _ _ hc1)).trans hc1)
 have E1:=Lib.hid e1
 have E2:=Lib.hid e2
 have HI:=Lib.hid hi
 have HR : Hid (more b d = { b with st:=b.st.set i (nth b.st i - d),bt:=b.bt.set i (nth b.bt i + d) }):=Lib.hid (by unfold more;rw [hi];rfl)
 clear h k t0 t1 e1 e2 hi hc1 hc2 l2 s1
 obtain ⟨x,ex⟩ : ∃ x : Int,x = nth b.st i:=⟨_,rfl⟩
 obtain ⟨y,ey⟩ : ∃ y : Int,y = nth b.bt i:=⟨_,rfl⟩
 rw [← ex] at H1 bx HR
 rw [← ey] at byy HR
 have EX:=Lib.hid ex
 have EY:=Lib.hid ey
 clear ex ey
 go_enter Try.func168,Try.ntmps168
 go_wp2_with fail
 refine wp_region_W (last:=13) (k:=13) hmx rfl (fun HC0=>?_)
 refine wpAnyR_takeL (i:=0) (kw:=5) (v:=.pointer (some ⟨g,0,none⟩)) (fun _=>bl_refl _) (fun p q=>bl_trans p q) rfl rfl (by kernel_rfl) (by kernel_rfl) (by kernel_rfl) (by kernel_rfl) (fun _ _ _ h=>h) HC0 (Or.inl ⟨by kernel_rfl,fun W' hI=>?_⟩) (fun HC1=>?_)
 ·exact .inl (by go_simp)
 refine wpAnyR_takeL (i:=1) (kw:=4) (v:=.pointer (some ⟨g,0,none⟩)) (fun _=>bl_refl _) (fun p q=>bl_trans p q) rfl rfl (by kernel_rfl) (by kernel_rfl) (by kernel_rfl) (by kernel_rfl) (fun _ _ _ h=>h) HC1 (Or.inl ⟨by kernel_rfl,fun W' hI=>?_⟩) (fun HC2=>?_)
 ·exact .inl (by go_simp)
 refine wpAnyR_takeL (i:=2) (kw:=3) (v:=.pointer (some ⟨g,0,none⟩)) (fun _=>bl_refl _) (fun p q=>bl_trans p q) rfl rfl (by kernel_rfl) (by kernel_rfl) (by kernel_rfl) (by kernel_rfl) (fun _ _ _ h=>h) HC2 (Or.inl ⟨by kernel_rfl,fun W' hI=>?_⟩) (fun HC3=>?_)
 ·exact .inl (by go_simp)
 refine wpAnyR_takeL (i:=3) (kw:=2) (v:=.slice (some ⟨b1,o1,none⟩) b.st.length L.c1) (fun _=>bl_refl _) (fun p q=>bl_trans p q) rfl rfl (by kernel_rfl) (by kernel_rfl) (by kernel_rfl) (by kernel_rfl) (fun _ _ _ h=>h) HC3 (Or.inl ⟨by kernel_rfl,fun W' hI=>?_⟩) (fun HC4=>?_)
 ·have hv:=(HN.out).below hI
  obtain ⟨z0,_⟩:=hv.cell 0 _ rfl
  exact .inl (by go_simp)
 refine wpAnyR_takeL (i:=4) (kw:=5) (v:=.pointer (some ⟨g,0,none⟩)) (fun _=>bl_refl _) (fun p q=>bl_trans p q) rfl rfl (by kernel_rfl) (by kernel_rfl) (by kernel_rfl) (by kernel_rfl) (fun _ _ _ h=>h) HC4 (Or.inl ⟨by kernel_rfl,fun W' hI=>?_⟩) (fun HC5=>?_)
 ·exact .inl (by go_simp)
 refine wpAnyR_takeL (i:=5) (kw:=4) (v:=.pointer (some ⟨g,0,none⟩)) (fun _=>bl_refl _) (fun p q=>bl_trans p q) rfl rfl (by kernel_rfl) (by kernel_rfl) (by kernel_rfl) (by kernel_rfl) (fun _ _ _ h=>h) HC5 (Or.inl ⟨by kernel_rfl,fun W' hI=>?_⟩) (fun HC6=>?_)
 ·exact .inl (by go_simp)
 refine wpAnyR_takeL (i:=6) (kw:=3) (v:=.pointer (some ⟨g,5,none⟩)) (fun _=>bl_refl _) (fun p q=>bl_trans p q) rfl rfl (by kernel_rfl) (by kernel_rfl) (by kernel_rfl) (by kernel_rfl) (fun _ _ _ h=>h) HC6 (Or.inl ⟨by kernel_rfl,fun W' hI=>?_⟩) (fun HC7=>?_)
 ·exact .inl (by go_simp)
 refine wpAnyR_takeL (i:=7) (kw:=2) (v:=.int .i64 i) (fun _=>bl_refl _) (fun p q=>bl_trans p q) rfl rfl (by kernel_rfl) (by kernel_rfl) (by kernel_rfl) (by kernel_rfl) (fun _ _ _ h=>h) HC7 (Or.inl ⟨by kernel_rfl,fun W' hI=>?_⟩) (fun HC8=>?_)
 ·have hv:=(HN.out).below hI
  obtain ⟨z5,_⟩:=hv.cell 5 _ rfl
  exact .inl (by go_simp)
 refine wpAnyR_takeL (i:=8) (kw:=3) (v:=.pointer (some ⟨b1,o1 + i,none⟩)) (fun _=>bl_refl _) (fun p q=>bl_trans p q) rfl rfl (by kernel_rfl) (by kernel_rfl) (by kernel_rfl) (by kernel_rfl) (fun _ _ _ h=>h) HC8 (Or.inl ⟨by kernel_rfl,fun W' hI=>?_⟩) (fun HC9=>?_)
 ·exact .inl (by go_simp)
 refine wpAnyR_takeL (i:=9) (kw:=2) (v:=.int .i64 x) (fun _=>bl_refl _) (fun p q=>bl_trans p q) rfl rfl (by kernel_rfl) (by kernel_rfl) (by kernel_rfl) (by kernel_rfl) (fun _ _ _ h=>h) HC9 (Or.inl ⟨by kernel_rfl,fun W' hI=>?_⟩) (fun HC10=>?_)
 ·have hx:=H1.out W' hI
  exact .inl (by go_simp)
 refine wpAnyR_takeL (i:=10) (kw:=2) (v:=.int .i64 d) (fun _=>bl_refl _) (fun p q=>bl_trans p q) rfl rfl (by kernel_rfl) (by kernel_rfl) (by kernel_rfl) (by kernel_rfl) (fun _ _ _ h=>h) HC10 (Or.inl ⟨by kernel_rfl,fun W' hI=>?_⟩) (fun HC11=>?_)
 ·exact .inl (by go_simp)
 refine wpAnyR_takeL (i:=11) (kw:=1) (v:=.int .i64 (x - d)) (fun _=>bl_refl _) (fun p q=>bl_trans p q) rfl rfl (by kernel_rfl) (by kernel_rfl) (by kernel_rfl) (by kernel_rfl) (fun _ _ _ h=>h) HC11 (Or.inl ⟨by kernel_rfl,fun W' hI=>?_⟩) (fun HC12=>?_)
 ·exact .inl (by go_simp;first | done | exact IntWalk.i64_in _ (by omega))
 refine wpAnyR_takeL (i:=12) (kw:=1) (v:=.pointer (some ⟨b1,o1 + i,none⟩)) (fun _=>bl_refl _) (fun p q=>bl_trans p q) rfl rfl (by kernel_rfl) (by kernel_rfl) (by kernel_rfl) (by kernel_rfl) (fun _ _ _ h=>h) HC12 (Or.inl ⟨by kernel_rfl,fun W' hI=>?_⟩) (fun HC13=>?_)
 ·exact .inl (by go_simp)
 refine wpAnyR_lastL (by kernel_rfl) (by kernel_rfl) rfl (by kernel_rfl) (fun wR hrR=>⟨bl_drewT hrR,?_⟩)
 intro K hK
 have BR:=Lib.hid (bl_drewT hrR)
 clear hrR
 have NW:=Lib.hid (NBH.out.below BR.out)
 have r1:=NW.out.rows.r1
 rw [E1.out] at r1
 have c4:=(r1.cellAt i hil).1
 have f4:=(r1.cellAt i hil).2
 clear r1
 go_simp
 refine hK _ _ ?_
 clear hK K
 obtain ⟨s1,s2⟩:=NW.out.setSt E1.out i hil (x - d)
 clear c4 f4
 generalize wR.setCell ⟨b1,o1 + i,none⟩ (.int .i64 (x - d)) = w5 at *
 have NS:=Lib.hid s1
 have FS:=Lib.hid ((Frm.of_below BR.out).trans s2)
 have HN2 : Hid (Blk w5 g 27 [.slice L.a1 b.st.length L.c1,.slice (some ⟨b2,o2,none⟩) b.bt.length L.c2,.slice L.a3 b.pd.length L.c3,.slice L.a4 b.fo.length L.c4,.slice L.a5 b.ac.length L.c5,.int .i64 i,.int .i64 b.un,.int .i64 b.ra,.int .i64 b.li]):=Lib.hid (by have q:=s1.blk;unfold btL at q;simp only [List.length_set] at q;rw [E2.out,HI.out] at q;exact q)
 have r2:=s1.rows.r2
 rw [E2.out] at r2
 have hc2:=(r2.cellAt i hil2).1
 have H2 : Hid (∀ W',Below w5.heap.size w5 W' → W'.cell? ⟨b2,o2 + i,none⟩ = some (.int .i64 y)):=Lib.hid (fun W' hI=>(hI.cell (p:=⟨b2,o2 + i,none⟩) (World.block_lt_of_cell? _ _ hc2)).trans (by rw [hc2,EY.out]))
 clear s1 s2 r2 hc2 HN H1 NW BR NBH
 go_wp2_with fail
 refine wp_region_W (last:=13) (k:=13) hmx rfl (fun HD0=>?_)
 refine wpAnyR_takeL (i:=0) (kw:=5) (v:=.pointer (some ⟨g,0,none⟩)) (fun _=>bl_refl _) (fun p q=>bl_trans p q) rfl rfl (by kernel_rfl) (by kernel_rfl) (by kernel_rfl) (by kernel_rfl) (fun _ _ _ h=>h) HD0 (Or.inl ⟨by kernel_rfl,fun W' hI=>?_⟩) (fun HD1=>?_)
 ·exact .inl (by go_simp)
 refine wpAnyR_takeL (i:=1) (kw:=4) (v:=.pointer (some ⟨g,0,none⟩)) (fun _=>bl_refl _) (fun p q=>bl_trans p q) rfl rfl (by kernel_rfl) (by kernel_rfl) (by kernel_rfl) (by kernel_rfl) (fun _ _ _ h=>h) HD1 (Or.inl ⟨by kernel_rfl,fun W' hI=>?_⟩) (fun HD2=>?_)
 ·exact .inl (by go_simp)
 refine wpAnyR_takeL (i:=2) (kw:=3) (v:=.pointer (some ⟨g,1,none⟩)) (fun _=>bl_refl _) (fun p q=>bl_trans p q) rfl rfl (by kernel_rfl) (by kernel_rfl) (by kernel_rfl) (by kernel_rfl) (fun _ _ _ h=>h) HD2 (Or.inl ⟨by kernel_rfl,fun W' hI=>?_⟩) (fun HD3=>?_)
 ·exact .inl (by go_simp)
 refine wpAnyR_takeL (i:=3) (kw:=2) (v:=.slice (some ⟨b2,o2,none⟩) b.bt.length L.c2) (fun _=>bl_refl _) (fun p q=>bl_trans p q) rfl rfl (by kernel_rfl) (by kernel_rfl) (by kernel_rfl) (by kernel_rfl) (fun _ _ _ h=>h) HD3 (Or.inl ⟨by kernel_rfl,fun W' hI=>?_⟩) (fun HD4=>?_)
 ·have hv:=(HN2.out).below hI
  obtain ⟨z1,_⟩:=hv.cell 1 _ rfl
  exact .inl (by go_simp)
 refine wpAnyR_takeL (i:=4) (kw:=5) (v:=.pointer (some ⟨g,0,none⟩)) (fun _=>bl_refl _) (fun p q=>bl_trans p q) rfl rfl (by kernel_rfl) (by kernel_rfl) (by kernel_rfl) (by kernel_rfl) (fun _ _ _ h=>h) HD4 (Or.inl ⟨by kernel_rfl,fun W' hI=>?_⟩) (fun HD5=>?_)
 ·exact .inl (by go_simp)
 refine wpAnyR_takeL (i:=5) (kw:=4) (v:=.pointer (some ⟨g,0,none⟩)) (fun _=>bl_refl _) (fun p q=>bl_trans p q) rfl rfl (by kernel_rfl) (by kernel_rfl) (by kernel_rfl) (by kernel_rfl) (fun _ _ _ h=>h) HD5 (Or.inl ⟨by kernel_rfl,fun W' hI=>?_⟩) (fun HD6=>?_)
 ·exact .inl (by go_simp)
 refine wpAnyR_takeL (i:=6) (kw:=3) (v:=.pointer (some ⟨g,5,none⟩)) (fun _=>bl_refl _) (fun p q=>bl_trans p q) rfl rfl (by kernel_rfl) (by kernel_rfl) (by kernel_rfl) (by kernel_rfl) (fun _ _ _ h=>h) HD6 (Or.inl ⟨by kernel_rfl,fun W' hI=>?_⟩) (fun HD7=>?_)
 ·exact .inl (by go_simp)
 refine wpAnyR_takeL (i:=7) (kw:=2) (v:=.int .i64 i) (fun _=>bl_refl _) (fun p q=>bl_trans p q) rfl rfl (by kernel_rfl) (by kernel_rfl) (by kernel_rfl) (by kernel_rfl) (fun _ _ _ h=>h) HD7 (Or.inl ⟨by kernel_rfl,fun W' hI=>?_⟩) (fun HD8=>?_)
 ·have hv:=(HN2.out).below hI
  obtain ⟨z5,_⟩:=hv.cell 5 _ rfl
  exact .inl (by go_simp)
 refine wpAnyR_takeL (i:=8) (kw:=3) (v:=.pointer (some ⟨b2,o2 + i,none⟩)) (fun _=>bl_refl _) (fun p q=>bl_trans p q) rfl rfl (by kernel_rfl) (by kernel_rfl) (by kernel_rfl) (by kernel_rfl) (fun _ _ _ h=>h) HD8 (Or.inl ⟨by kernel_rfl,fun W' hI=>?_⟩) (fun HD9=>?_)
 ·exact .inl (by go_simp)
 refine wpAnyR_takeL (i:=9) (kw:=2) (v:=.int .i64 y) (fun _=>bl_refl _) (fun p q=>bl_trans p q) rfl rfl (by kernel_rfl) (by kernel_rfl) (by kernel_rfl) (by kernel_rfl) (fun _ _ _ h=>h) HD9 (Or.inl ⟨by kernel_rfl,fun W' hI=>?_⟩) (fun HD10=>?_)
 ·have hx:=H2.out W' hI
  exact .inl (by go_simp)
 refine wpAnyR_takeL (i:=10) (kw:=2) (v:=.int .i64 d) (fun _=>bl_refl _) (fun p q=>bl_trans p q) rfl rfl (by kernel_rfl) (by kernel_rfl) (by kernel_rfl) (by kernel_rfl) (fun _ _ _ h=>h) HD10 (Or.inl ⟨by kernel_rfl,fun W' hI=>?_⟩) (fun HD11=>?_)
 ·exact .inl (by go_simp)
 refine wpAnyR_takeL (i:=11) (kw:=1) (v:=.int .i64 (y + d)) (fun _=>bl_refl _) (fun p q=>bl_trans p q) rfl rfl (by kernel_rfl) (by kernel_rfl) (by kernel_rfl) (by kernel_rfl) (fun _ _ _ h=>h) HD11 (Or.inl ⟨by kernel_rfl,fun W' hI=>?_⟩) (fun HD12=>?_)
 ·exact .inl (by go_simp;first | done | exact IntWalk.i64_in _ (by omega))
 refine wpAnyR_takeL (i:=12) (kw:=1) (v:=.pointer (some ⟨b2,o2 + i,none⟩)) (fun _=>bl_refl _) (fun p q=>bl_trans p q) rfl rfl (by kernel_rfl) (by kernel_rfl) (by kernel_rfl) (by kernel_rfl) (fun _ _ _ h=>h) HD12 (Or.inl ⟨by kernel_rfl,fun W' hI=>?_⟩) (fun HD13=>?_)
 ·exact .inl (by go_simp)
 refine wpAnyR_lastL (by kernel_rfl) (by kernel_rfl) rfl (by kernel_rfl) (fun wS hrR=>⟨bl_drewT hrR,?_⟩)
 intro K hK
 have BR:=Lib.hid (bl_drewT hrR)
 clear hrR
 have NW:=Lib.hid (NS.out.below BR.out)
 have r2:=NW.out.rows.r2
 rw [E2.out] at r2
 have c4:=(r2.cellAt i hil2).1
 have f4:=(r2.cellAt i hil2).2
 clear r2
 go_simp
 refine hK _ _ ?_
 clear hK K
 obtain ⟨s1,s2⟩:=NW.out.setBt E2.out i hil2 (y + d)
 clear c4 f4
 generalize wS.setCell ⟨b2,o2 + i,none⟩ (.int .i64 (y + d)) = w6 at *
 go_wp2_with fail
 exact bodyPost_ret (v:=.tuple #[]) (by simp [results,Try.results168,go_sem]) rfl ⟨rfl,by rw [HR.out];exact s1,(FS.out.trans (Frm.of_below BR.out)).trans s2⟩
set_option maxRecDepth 100000 in
set_option maxHeartbeats 1000000 in
theorem call_bd {b : Bt} (k : Ok b) : 0 ≤ callI b ∧ callI b ≤ 600000:=by
 have h1:=miss_bd k
 have h2:=minT_le (missI b) (nth b.st b.tu.toNat)
 have h3:=k.s1 b.tu.toNat (by have:=k.t0;have:=k.t1;omega)
 unfold callI
 omega
set_option maxRecDepth 100000 in
set_option maxHeartbeats 1000000 in
theorem call_any (g : Nat) (L : At5) (b : Bt) (x : Int) (w : World) (h : NB w g L b) (k : Ok b) :
  Calls Try.prog 148 #[.pointer (some ⟨g,0,none⟩),.int .i64 x] w (Did g L (more b (callI b)) w):=by
 have KC:=Lib.hid (callSize_any g L b w h.at_ k)
 have bc:=call_bd k
 have KM:=Lib.hid (fun (W : World) (hb : Below w.heap.size w W)=>betMore_any g L b (callI b) W (h.below hb) k.sd k.s1 k.t0 k.t1 (by omega) (by omega))
 clear h k
 generalize callI b = c at *
 go_enter Try.func148,Try.ntmps148
 go_wp2_with (first
  | (go_at_call 133;refine KC.out.mono ?_;rintro e w1 ⟨rfl,m1,rfl⟩)
  | (go_at_call 168;refine (KM.out _ (bl_drewN (bl_refl _) _)).mono ?_;rintro e w2 ⟨rfl,hn,hf⟩;have HNB:=Lib.hid hn;have HFR:=Lib.hid ((Frm.of_below (bl_drewN (bl_refl w) _)).trans hf)))
 exact bodyPost_ret (v:=.tuple #[]) (by simp [results,Try.results148,go_sem]) rfl ⟨rfl,HNB.out,HFR.out⟩
end Go.Proofs.Ytnllndcajdofjaa

/-! clear of a row of bools. -/
namespace Go.Proofs.Ytnllndcajdofjaa
open Go.RowKit
set_option linter.unusedVariables false

/-- From the k-th place on,these. -/
def setFrom (xs : List Bool) : Nat → List Bool → List Bool
 | _,[]=>xs
 | k,v :: vs=>setFrom (xs.set k v) (k + 1) vs
theorem setFrom_len : ∀ (vs : List Bool) (xs : List Bool) (k : Nat),(setFrom xs k vs).length = xs.length
 | [],_,_=>rfl
 | v :: vs,xs,k=>by show (setFrom (xs.set k v) (k + 1) vs).length = _;rw [setFrom_len vs,List.length_set]
theorem setFrom_nth : ∀ (vs : List Bool) (xs : List Bool) (k i : Nat),k + vs.length ≤ xs.length → nthB (setFrom xs k vs) i = if k ≤ i ∧ i < k + vs.length then nthB vs (i - k) else nthB xs i
 | [],xs,k,i,h=>by
  simp [setFrom]
  intro h1 h2;omega
 | v :: vs,xs,k,i,h=>by
  simp only [List.length_cons] at h
  show nthB (setFrom (xs.set k v) (k + 1) vs) i = _
  rw [setFrom_nth vs (xs.set k v) (k + 1) i (by rw [List.length_set];omega)]
  simp only [List.length_cons]
  by_cases e : k = i
  ·subst e
   rw [if_neg (by omega),if_pos (by omega),nthB_set_same _ _ _ (by omega),Nat.sub_self]
   rfl
  ·rw [nthB_set_other _ _ _ _ e]
   by_cases q : k + 1 ≤ i ∧ i < k + 1 + vs.length
   ·rw [if_pos q,if_pos (by omega)]
    obtain ⟨m,rfl⟩ : ∃ m,i = k + 1 + m:=⟨i - (k + 1),by omega⟩
    rw [show k + 1 + m - (k + 1) = m by omega,show k + 1 + m - k = m + 1 by omega]
    rfl
   ·rw [if_neg q,if_neg (by omega)]
theorem extB {xs ys : List Bool} (hl : xs.length = ys.length) (h : ∀ i,i < xs.length → nthB xs i = nthB ys i) : xs = ys:=by
 refine List.ext_getElem hl (fun i h1 h2=>?_)
 have:=h i h1
 rwa [nthB_eq _ _ h1,nthB_eq _ _ h2] at this
theorem setFrom_all (xs : List Bool) : setFrom xs 0 (List.replicate xs.length false) = List.replicate xs.length false:=by
 refine extB (by rw [setFrom_len,List.length_replicate]) (fun i hi=>?_)
 rw [setFrom_len] at hi
 rw [setFrom_nth _ _ _ _ (by rw [List.length_replicate];omega),if_pos (by rw [List.length_replicate];omega),Nat.sub_zero]
/-- A row of bools is written from its k-th place on. -/
theorem RowB.setAll : ∀ (vs : List Bool) {w : World} {lo g off : Nat} {xs : List Bool} (h : RowB w lo (some ⟨g,off,none⟩) xs) (k : Nat) (hk : k + vs.length ≤ xs.length),
  RowB (w.setCells g (off + k) (vs.map Value.bool)) lo (some ⟨g,off,none⟩) (setFrom xs k vs) ∧ w.grownBy (w.setCells g (off + k) (vs.map Value.bool)) (some g)
 | [],w,lo,g,off,xs,h,k,hk=>⟨h,World.grownBy.refl w _⟩
 | v :: vs,w,lo,g,off,xs,h,k,hk=>by
  simp only [List.length_cons] at hk
  obtain ⟨s1,s2⟩:=h.setAt k (by omega) v
  obtain ⟨t1,t2⟩:=RowB.setAll vs s1 (k + 1) (by rw [List.length_set];omega)
  exact ⟨t1,World.grownBy.trans s2 t2⟩
/-- All have not acted. -/
theorem NB.clearAc {w : World} {g : Nat} {L : At5} {b : Bt} (h : NB w g L b) {ga off : Nat} (e : L.a5 = some ⟨ga,off,none⟩) :
  NB (w.setCells ga off (List.replicate b.ac.length (.bool false))) g L { b with ac:=List.replicate b.ac.length false } ∧ Frm g w (w.setCells ga off (List.replicate b.ac.length (.bool false))):=by
 have rj:=h.rows.r5
 rw [e] at rj
 obtain ⟨s1,s2⟩:=RowB.setAll (List.replicate b.ac.length false) rj 0 (by rw [List.length_replicate];omega)
 rw [setFrom_all,List.map_replicate,Nat.add_zero] at s1
 rw [List.map_replicate,Nat.add_zero] at s2
 have hlo:=(h.rows.r5.1 _ e).1
 simp only at hlo
 refine ⟨⟨?_,?_⟩,Frm.of_grown s2 (by omega)⟩
 ·have:=h.blk.grown s2 (fun q=>by have:=Option.some.inj q;omega)
  unfold btL at *
  simpa using this
 ·exact ⟨h.rows.r1.grown s2 (fun a ea q=>h.rows.p15 a _ ea e (by simpa using q)),h.rows.r2.grown s2 (fun a ea q=>h.rows.p25 a _ ea e (by simpa using q)),h.rows.r3.grown s2 (fun a ea q=>h.rows.p35 a _ ea e (by simpa using q)),h.rows.r4.grown s2 (fun a ea q=>h.rows.p45 a _ ea e (by simpa using q)),by rw [e];exact s1,h.rows.p12,h.rows.p13,h.rows.p14,h.rows.p15,h.rows.p23,h.rows.p24,h.rows.p25,h.rows.p34,h.rows.p35,h.rows.p45⟩
theorem zeroBl : ∀ w,(zeroValue 4).run Try.prog w = .ok (.bool false) w:=by
 obtain ⟨i0,hi,hz0,hz1,hz2⟩:=info_parts infoBoolL
 intro w
 simp [zeroValue,typeInfo,hi,hz0]
theorem wpList_clearAc {ops : Array Oper} {rest : List Oper} {o : Oper} {a : Go.Act} {w : World} {Q : Exit → Go.Act → World → Prop} (hgd : o.guard = none) (x : Operand)
  (ho : o.op = .call { callee:=.builtin .clear,args:=#[x],argTypes:=#[25] }) (g : Nat) (L : At5) (b : Bt) (c ga off : Nat) (h : NB w g L b) (e : L.a5 = some ⟨ga,off,none⟩) (h0 : 0 < b.ac.length)
  (hx : a.eval x = .slice (some ⟨ga,off,none⟩) b.ac.length c)
  (hK : ∀ w',NB w' g L { b with ac:=List.replicate b.ac.length false } → Frm g w w' → wpList Try.prog ops Q rest (a.put o.dst (.tuple #[])) w') : wpList Try.prog ops Q (o :: rest) a w :=
 wpList_plain hgd fun K hK'=>by
  have rj:=h.rows.r5
  rw [e] at rj
  have hr:=Lib.run_clear_slice (P:=Try.prog) w 25 4 o.type (.bool false) Try.underlying25 zeroBl rfl rfl ga off b.ac.length c h0
   (fun j hj=>by rw [(rj.cellAt j hj).1];rfl) (fun j hj=>(rj.cellAt j hj).2)
  obtain ⟨s1,s2⟩:=h.clearAc e
  unfold Oper.wp execOp
  simp only [ho,resolve,invoke,builtin,Sem.run_bind,Sem.run_pure,Result.andThen_ok,List.map_toArray,List.map_cons,List.map_nil,hx,hr]
  exact hK' _ _ (hK _ s1 s2)
end Go.Proofs.Ytnllndcajdofjaa

/-! The program: raiseTo,check. -/
namespace Go.Proofs.Ytnllndcajdofjaa
open Go.RowKit
set_option linter.unusedVariables false

set_option maxRecDepth 100000 in
set_option maxHeartbeats 800000 in
theorem raiseTo_any (g : Nat) (L : At5) (b : Bt) (x : Int) (w : World) (h : NB w g L b) (k : Ok b) (hx0 : 0 ≤ x) (hx1 : x ≤ 600000) :
  Calls Try.prog 150 #[.pointer (some ⟨g,0,none⟩),.int .i64 x] w (Did g L (raiseB b x) w):=by
 have hmx : Try.prog.follows .mixedOrders = true:=by kernel_rfl
 have i1 : (Try.prog.info? 2).map (·.size) = some 1:=by kernel_rfl
 obtain ⟨i,hi⟩:=Int.eq_ofNat_of_zero_le k.t0
 have l2:=k.l2
 have l5:=k.l5
 have n2:=k.n2
 have ht1:=k.t1
 have hil2 : i < b.bt.length:=by omega
 have d2 : (i : Int) < b.bt.length:=by omega
 have h0 : 0 < b.ac.length:=by omega
 have u1:=top_bd k.sd
 have byy:=k.s2 i hil2
 have r0:=k.r0
 have r1:=k.r1
 obtain ⟨b2,o2,e2,hc2⟩:=h.rows.r2.rd.at_0 i hil2
 obtain ⟨ga,oa,e5,hc5⟩:=h.rows.r5.rd.at_0 0 h0
 have NBH:=Lib.hid h
 have HN : Hid (Blk w g 27 [.slice L.a1 b.st.length L.c1,.slice (some ⟨b2,o2,none⟩) b.bt.length L.c2,.slice L.a3 b.pd.length L.c3,.slice L.a4 b.fo.length L.c4,.slice L.a5 b.ac.length L.c5,.int .i64 i,.int .i64 b.un,.int .i64 b.ra,.int .i64 b.li]):=Lib.hid (by have q:=h.blk;unfold btL at q;rw [e2,hi] at q;exact q)
 have H2 : Hid (∀ W',Below w.heap.size w W' → W'.cell? ⟨b2,o2 + i,none⟩ = some (.int .i64 (nth b.bt i))):=Lib.hid (fun W' hI=>(hI.cell (p:=⟨b2,o2 + i,none⟩) (World.block_lt_of_cell? _ _ hc2)).trans hc2)
 have KT:=Lib.hid (betToMatchS_any g L b w h.at_ k.sd)
 have KM:=Lib.hid (fun (W : World) (hW : NB W g L b)=>betMore_any g L b (x - nth b.bt i) W hW k.sd k.s1 k.t0 k.t1 (by omega) (by omega))
 have KN:=Lib.hid (fun W : World=>minT_any (b.ra + 1) 4 W)
 have E5:=Lib.hid e5
 have HM : Hid (raiseB b x = { more b (x - nth b.bt i) with ra:=minT (b.ra + 1) 4,un:=if fullB b x = true then x - topI b else b.un,ac:=if fullB b x = true then List.replicate b.ac.length false else b.ac }):=Lib.hid (by unfold raiseB;rw [hi];rfl)
 have HFU : Hid (fullB b x = decide (b.un ≤ x - topI b)):=Lib.hid rfl
 clear h k e2 e5 hc2 hc5 hi l2 l5 n2 ht1
 generalize fullB b x = fu at *
 generalize topI b = t at *
 obtain ⟨y,ey⟩ : ∃ y : Int,y = nth b.bt i:=⟨_,rfl⟩
 rw [← ey] at H2 byy KM HM
 clear ey
 obtain ⟨c,ec⟩ : ∃ c : Bt,c = more b (x - y):=⟨_,rfl⟩
 rw [← ec] at KM HM
 have cr : c.ra = b.ra:=by rw [ec];rfl
 have cu : c.un = b.un:=by rw [ec];rfl
 have ca : c.ac = b.ac:=by rw [ec];rfl
 have CR:=Lib.hid cr
 have CU:=Lib.hid cu
 have CA:=Lib.hid ca
 clear ec cr cu ca
 by_cases c1 : b.un ≤ x - t
 ·have c2 : decide (b.un ≤ x - t) = true:=decide_eq_true c1
  obtain rfl : fu = true:=by rw [HFU.out];exact c2
  simp only [if_true] at HM
  clear HFU c1
  go_enter Try.func150,Try.ntmps150
  go_wp2_with (go_at_call 130;refine KT.out.mono ?_;rintro e wn ⟨rfl,rfl⟩)
  refine wp_region_W (last:=13) (k:=13) hmx rfl (fun HC0=>?_)
  refine wpAnyR_takeL (i:=0) (kw:=1) (v:=.pointer (some ⟨g,0,none⟩)) (fun _=>bl_refl _) (fun p q=>bl_trans p q) rfl rfl (by kernel_rfl) (by kernel_rfl) (by kernel_rfl) (by kernel_rfl) (fun _ _ _ h=>h) HC0 (Or.inl ⟨by kernel_rfl,fun W' hI=>?_⟩) (fun HC1=>?_)
  ·exact .inl (by go_simp)
  refine wpAnyR_takeL (i:=1) (kw:=2) (v:=.int .i64 x) (fun _=>bl_refl _) (fun p q=>bl_trans p q) rfl rfl (by kernel_rfl) (by kernel_rfl) (by kernel_rfl) (by kernel_rfl) (fun _ _ _ h=>h) HC1 (Or.inl ⟨by kernel_rfl,fun W' hI=>?_⟩) (fun HC2=>?_)
  ·exact .inl (by go_simp)
  refine wpAnyR_takeL (i:=2) (kw:=7) (v:=.pointer (some ⟨g,0,none⟩)) (fun _=>bl_refl _) (fun p q=>bl_trans p q) rfl rfl (by kernel_rfl) (by kernel_rfl) (by kernel_rfl) (by kernel_rfl) (fun _ _ _ h=>h) HC2 (Or.inl ⟨by kernel_rfl,fun W' hI=>?_⟩) (fun HC3=>?_)
  ·exact .inl (by go_simp)
  refine wpAnyR_takeL (i:=3) (kw:=6) (v:=.pointer (some ⟨g,0,none⟩)) (fun _=>bl_refl _) (fun p q=>bl_trans p q) rfl rfl (by kernel_rfl) (by kernel_rfl) (by kernel_rfl) (by kernel_rfl) (fun _ _ _ h=>h) HC3 (Or.inl ⟨by kernel_rfl,fun W' hI=>?_⟩) (fun HC4=>?_)
  ·exact .inl (by go_simp)
  refine wpAnyR_takeL (i:=4) (kw:=5) (v:=.pointer (some ⟨g,1,none⟩)) (fun _=>bl_refl _) (fun p q=>bl_trans p q) rfl rfl (by kernel_rfl) (by kernel_rfl) (by kernel_rfl) (by kernel_rfl) (fun _ _ _ h=>h) HC4 (Or.inl ⟨by kernel_rfl,fun W' hI=>?_⟩) (fun HC5=>?_)
  ·exact .inl (by go_simp)
  refine wpAnyR_takeL (i:=5) (kw:=4) (v:=.slice (some ⟨b2,o2,none⟩) b.bt.length L.c2) (fun _=>bl_refl _) (fun p q=>bl_trans p q) rfl rfl (by kernel_rfl) (by kernel_rfl) (by kernel_rfl) (by kernel_rfl) (fun _ _ _ h=>h) HC5 (Or.inl ⟨by kernel_rfl,fun W' hI=>?_⟩) (fun HC6=>?_)
  ·have hv:=(HN.out).below hI
   obtain ⟨z1,_⟩:=hv.cell 1 _ rfl
   exact .inl (by go_simp)
  refine wpAnyR_takeL (i:=6) (kw:=7) (v:=.pointer (some ⟨g,0,none⟩)) (fun _=>bl_refl _) (fun p q=>bl_trans p q) rfl rfl (by kernel_rfl) (by kernel_rfl) (by kernel_rfl) (by kernel_rfl) (fun _ _ _ h=>h) HC6 (Or.inl ⟨by kernel_rfl,fun W' hI=>?_⟩) (fun HC7=>?_)
  ·exact .inl (by go_simp)
  refine wpAnyR_takeL (i:=7) (kw:=6) (v:=.pointer (some ⟨g,0,none⟩)) (fun _=>bl_refl _) (fun p q=>bl_trans p q) rfl rfl (by kernel_rfl) (by kernel_rfl) (by kernel_rfl) (by kernel_rfl) (fun _ _ _ h=>h) HC7 (Or.inl ⟨by kernel_rfl,fun W' hI=>?_⟩) (fun HC8=>?_)
  ·exact .inl (by go_simp)
  refine wpAnyR_takeL (i:=8) (kw:=5) (v:=.pointer (some ⟨g,5,none⟩)) (fun _=>bl_refl _) (fun p q=>bl_trans p q) rfl rfl (by kernel_rfl) (by kernel_rfl) (by kernel_rfl) (by kernel_rfl) (fun _ _ _ h=>h) HC8 (Or.inl ⟨by kernel_rfl,fun W' hI=>?_⟩) (fun HC9=>?_)
  ·exact .inl (by go_simp)
  refine wpAnyR_takeL (i:=9) (kw:=4) (v:=.int .i64 i) (fun _=>bl_refl _) (fun p q=>bl_trans p q) rfl rfl (by kernel_rfl) (by kernel_rfl) (by kernel_rfl) (by kernel_rfl) (fun _ _ _ h=>h) HC9 (Or.inl ⟨by kernel_rfl,fun W' hI=>?_⟩) (fun HC10=>?_)
  ·have hv:=(HN.out).below hI
   obtain ⟨z5,_⟩:=hv.cell 5 _ rfl
   exact .inl (by go_simp)
  refine wpAnyR_takeL (i:=10) (kw:=3) (v:=.pointer (some ⟨b2,o2 + i,none⟩)) (fun _=>bl_refl _) (fun p q=>bl_trans p q) rfl rfl (by kernel_rfl) (by kernel_rfl) (by kernel_rfl) (by kernel_rfl) (fun _ _ _ h=>h) HC10 (Or.inl ⟨by kernel_rfl,fun W' hI=>?_⟩) (fun HC11=>?_)
  ·exact .inl (by go_simp)
  refine wpAnyR_takeL (i:=11) (kw:=2) (v:=.int .i64 y) (fun _=>bl_refl _) (fun p q=>bl_trans p q) rfl rfl (by kernel_rfl) (by kernel_rfl) (by kernel_rfl) (by kernel_rfl) (fun _ _ _ h=>h) HC11 (Or.inl ⟨by kernel_rfl,fun W' hI=>?_⟩) (fun HC12=>?_)
  ·have hx:=H2.out W' hI
   exact .inl (by go_simp)
  refine wpAnyR_takeL (i:=12) (kw:=1) (v:=.int .i64 (x - y)) (fun _=>bl_refl _) (fun p q=>bl_trans p q) rfl rfl (by kernel_rfl) (by kernel_rfl) (by kernel_rfl) (by kernel_rfl) (fun _ _ _ h=>h) HC12 (Or.inl ⟨by kernel_rfl,fun W' hI=>?_⟩) (fun HC13=>?_)
  ·exact .inl (by go_simp;first | done | exact IntWalk.i64_in _ (by omega))
  refine wpAnyR_lastL (by kernel_rfl) (by kernel_rfl) rfl (by kernel_rfl) (fun wR hrR=>⟨bl_drewT hrR,?_⟩)
  intro K hK
  have BR:=Lib.hid (bl_drewT hrR)
  clear hrR
  go_simp
  go_wp2_with (first
    | (go_at_call 168;refine (KM.out _ (NBH.out.below BR.out)).mono ?_;rintro e w2 ⟨rfl,hn,hf⟩;have N2:=Lib.hid hn;have F2:=Lib.hid ((Frm.of_below BR.out).trans hf);clear hn hf;obtain ⟨q4,-⟩:=N2.out.blk.cell 4 _ rfl;obtain ⟨q6,-⟩:=N2.out.blk.cell 6 _ rfl;obtain ⟨q7,-⟩:=N2.out.blk.cell 7 _ rfl;rw [E5.out] at q4;rw [CR.out] at q7;rw [CU.out] at q6;rw [CA.out] at q4)
    | (go_at_call 136;refine (KN.out _).mono ?_;rintro e wz ⟨rfl,rfl⟩)
    | ((with_reducible refine wpList_store_at 2 rfl (.tmp 31) (.tmp 29) rfl i1 g 7 rfl (.int .i64 (minT (b.ra + 1) 4)) rfl rfl _ _ N2.out.blk ?_ ?_);(exact (by simp));intro w3 k5 g5;have N3:=Lib.hid (N2.out.setRa _ k5 g5).1;have F3:=Lib.hid (F2.out.trans (N2.out.setRa _ k5 g5).2);clear k5 g5;obtain ⟨q4,-⟩:=N3.out.blk.cell 4 _ rfl;obtain ⟨q6,-⟩:=N3.out.blk.cell 6 _ rfl;obtain ⟨q7,-⟩:=N3.out.blk.cell 7 _ rfl;rw [E5.out] at q4;rw [CU.out] at q6;rw [CA.out] at q4)
    | ((with_reducible refine wpList_store_at 2 rfl (.tmp 41) (.tmp 39) rfl i1 g 6 rfl (.int .i64 (x - t)) rfl rfl _ _ N3.out.blk ?_ ?_);(exact (by simp));intro w4 k5 g5;have N4:=Lib.hid (N3.out.setUn _ k5 g5).1;have F4:=Lib.hid (F3.out.trans (N3.out.setUn _ k5 g5).2);clear k5 g5;obtain ⟨q4,-⟩:=N4.out.blk.cell 4 _ rfl;rw [E5.out,CA.out] at q4)
    | (refine wpList_clearAc rfl (.tmp 45) rfl g L _ _ ga oa N4.out E5.out (by rw [CA.out];exact h0) (by rw [CA.out];rfl) ?_;intro w5 hn hf;have N5:=Lib.hid hn;have F5:=Lib.hid (F4.out.trans hf);clear hn hf))
  exact bodyPost_ret (v:=.tuple #[]) (by simp [results,Try.results150,go_sem]) rfl ⟨rfl,by rw [HM.out];have q:=N5.out;rw [CA.out] at q;exact q,F5.out⟩
 ·have c2 : decide (b.un ≤ x - t) = false:=decide_eq_false c1
  obtain rfl : fu = false:=by rw [HFU.out];exact c2
  simp only [Bool.false_eq_true,if_false] at HM
  clear HFU c1
  go_enter Try.func150,Try.ntmps150
  go_wp2_with (go_at_call 130;refine KT.out.mono ?_;rintro e wn ⟨rfl,rfl⟩)
  refine wp_region_W (last:=13) (k:=13) hmx rfl (fun HC0=>?_)
  refine wpAnyR_takeL (i:=0) (kw:=1) (v:=.pointer (some ⟨g,0,none⟩)) (fun _=>bl_refl _) (fun p q=>bl_trans p q) rfl rfl (by kernel_rfl) (by kernel_rfl) (by kernel_rfl) (by kernel_rfl) (fun _ _ _ h=>h) HC0 (Or.inl ⟨by kernel_rfl,fun W' hI=>?_⟩) (fun HC1=>?_)
  ·exact .inl (by go_simp)
  refine wpAnyR_takeL (i:=1) (kw:=2) (v:=.int .i64 x) (fun _=>bl_refl _) (fun p q=>bl_trans p q) rfl rfl (by kernel_rfl) (by kernel_rfl) (by kernel_rfl) (by kernel_rfl) (fun _ _ _ h=>h) HC1 (Or.inl ⟨by kernel_rfl,fun W' hI=>?_⟩) (fun HC2=>?_)
  ·exact .inl (by go_simp)
  refine wpAnyR_takeL (i:=2) (kw:=7) (v:=.pointer (some ⟨g,0,none⟩)) (fun _=>bl_refl _) (fun p q=>bl_trans p q) rfl rfl (by kernel_rfl) (by kernel_rfl) (by kernel_rfl) (by kernel_rfl) (fun _ _ _ h=>h) HC2 (Or.inl ⟨by kernel_rfl,fun W' hI=>?_⟩) (fun HC3=>?_)
  ·exact .inl (by go_simp)
  refine wpAnyR_takeL (i:=3) (kw:=6) (v:=.pointer (some ⟨g,0,none⟩)) (fun _=>bl_refl _) (fun p q=>bl_trans p q) rfl rfl (by kernel_rfl) (by kernel_rfl) (by kernel_rfl) (by kernel_rfl) (fun _ _ _ h=>h) HC3 (Or.inl ⟨by kernel_rfl,fun W' hI=>?_⟩) (fun HC4=>?_)
  ·exact .inl (by go_simp)
  refine wpAnyR_takeL (i:=4) (kw:=5) (v:=.pointer (some ⟨g,1,none⟩)) (fun _=>bl_refl _) (fun p q=>bl_trans p q) rfl rfl (by kernel_rfl) (by kernel_rfl) (by kernel_rfl) (by kernel_rfl) (fun _ _ _ h=>h) HC4 (Or.inl ⟨by kernel_rfl,fun W' hI=>?_⟩) (fun HC5=>?_)
  ·exact .inl (by go_simp)
  refine wpAnyR_takeL (i:=5) (kw:=4) (v:=.slice (some ⟨b2,o2,none⟩) b.bt.length L.c2) (fun _=>bl_refl _) (fun p q=>bl_trans p q) rfl rfl (by kernel_rfl) (by kernel_rfl) (by kernel_rfl) (by kernel_rfl) (fun _ _ _ h=>h) HC5 (Or.inl ⟨by kernel_rfl,fun W' hI=>?_⟩) (fun HC6=>?_)
  ·have hv:=(HN.out).below hI
   obtain ⟨z1,_⟩:=hv.cell 1 _ rfl
   exact .inl (by go_simp)
  refine wpAnyR_takeL (i:=6) (kw:=7) (v:=.pointer (some ⟨g,0,none⟩)) (fun _=>bl_refl _) (fun p q=>bl_trans p q) rfl rfl (by kernel_rfl) (by kernel_rfl) (by kernel_rfl) (by kernel_rfl) (fun _ _ _ h=>h) HC6 (Or.inl ⟨by kernel_rfl,fun W' hI=>?_⟩) (fun HC7=>?_)
  ·exact .inl (by go_simp)
  refine wpAnyR_takeL (i:=7) (kw:=6) (v:=.pointer (some ⟨g,0,none⟩)) (fun _=>bl_refl _) (fun p q=>bl_trans p q) rfl rfl (by kernel_rfl) (by kernel_rfl) (by kernel_rfl) (by kernel_rfl) (fun _ _ _ h=>h) HC7 (Or.inl ⟨by kernel_rfl,fun W' hI=>?_⟩) (fun HC8=>?_)
  ·exact .inl (by go_simp)
  refine wpAnyR_takeL (i:=8) (kw:=5) (v:=.pointer (some ⟨g,5,none⟩)) (fun _=>bl_refl _) (fun p q=>bl_trans p q) rfl rfl (by kernel_rfl) (by kernel_rfl) (by kernel_rfl) (by kernel_rfl) (fun _ _ _ h=>h) HC8 (Or.inl ⟨by kernel_rfl,fun W' hI=>?_⟩) (fun HC9=>?_)
  ·exact .inl (by go_simp)
  refine wpAnyR_takeL (i:=9) (kw:=4) (v:=.int .i64 i) (fun _=>bl_refl _) (fun p q=>bl_trans p q) rfl rfl (by kernel_rfl) (by kernel_rfl) (by kernel_rfl) (by kernel_rfl) (fun _ _ _ h=>h) HC9 (Or.inl ⟨by kernel_rfl,fun W' hI=>?_⟩) (fun HC10=>?_)
  ·have hv:=(HN.out).below hI
   obtain ⟨z5,_⟩:=hv.cell 5 _ rfl
   exact .inl (by go_simp)
  refine wpAnyR_takeL (i:=10) (kw:=3) (v:=.pointer (some ⟨b2,o2 + i,none⟩)) (fun _=>bl_refl _) (fun p q=>bl_trans p q) rfl rfl (by kernel_rfl) (by kernel_rfl) (by kernel_rfl) (by kernel_rfl) (fun _ _ _ h=>h) HC10 (Or.inl ⟨by kernel_rfl,fun W' hI=>?_⟩) (fun HC11=>?_)
  ·exact .inl (by go_simp)
  refine wpAnyR_takeL (i:=11) (kw:=2) (v:=.int .i64 y) (fun _=>bl_refl _) (fun p q=>bl_trans p q) rfl rfl (by kernel_rfl) (by kernel_rfl) (by kernel_rfl) (by kernel_rfl) (fun _ _ _ h=>h) HC11 (Or.inl ⟨by kernel_rfl,fun W' hI=>?_⟩) (fun HC12=>?_)
  ·have hx:=H2.out W' hI
   exact .inl (by go_simp)
  refine wpAnyR_takeL (i:=12) (kw:=1) (v:=.int .i64 (x - y)) (fun _=>bl_refl _) (fun p q=>bl_trans p q) rfl rfl (by kernel_rfl) (by kernel_rfl) (by kernel_rfl) (by kernel_rfl) (fun _ _ _ h=>h) HC12 (Or.inl ⟨by kernel_rfl,fun W' hI=>?_⟩) (fun HC13=>?_)
  ·exact .inl (by go_simp;first | done | exact IntWalk.i64_in _ (by omega))
  refine wpAnyR_lastL (by kernel_rfl) (by kernel_rfl) rfl (by kernel_rfl) (fun wR hrR=>⟨bl_drewT hrR,?_⟩)
  intro K hK
  have BR:=Lib.hid (bl_drewT hrR)
  clear hrR
  go_simp
  go_wp2_with (first
    | (go_at_call 168;refine (KM.out _ (NBH.out.below BR.out)).mono ?_;rintro e w2 ⟨rfl,hn,hf⟩;have N2:=Lib.hid hn;have F2:=Lib.hid ((Frm.of_below BR.out).trans hf);clear hn hf;obtain ⟨q4,-⟩:=N2.out.blk.cell 4 _ rfl;obtain ⟨q6,-⟩:=N2.out.blk.cell 6 _ rfl;obtain ⟨q7,-⟩:=N2.out.blk.cell 7 _ rfl;rw [E5.out] at q4;rw [CR.out] at q7;rw [CU.out] at q6;rw [CA.out] at q4)
    | (go_at_call 136;refine (KN.out _).mono ?_;rintro e wz ⟨rfl,rfl⟩)
    | ((with_reducible refine wpList_store_at 2 rfl (.tmp 31) (.tmp 29) rfl i1 g 7 rfl (.int .i64 (minT (b.ra + 1) 4)) rfl rfl _ _ N2.out.blk ?_ ?_);(exact (by simp));intro w3 k5 g5;have N3:=Lib.hid (N2.out.setRa _ k5 g5).1;have F3:=Lib.hid (F2.out.trans (N2.out.setRa _ k5 g5).2);clear k5 g5;obtain ⟨q4,-⟩:=N3.out.blk.cell 4 _ rfl;obtain ⟨q6,-⟩:=N3.out.blk.cell 6 _ rfl;obtain ⟨q7,-⟩:=N3.out.blk.cell 7 _ rfl;rw [E5.out] at q4;rw [CU.out] at q6;rw [CA.out] at q4))
  exact bodyPost_ret (v:=.tuple #[]) (by simp [results,Try.results150,go_sem]) rfl ⟨rfl,by rw [HM.out];have q:=N3.out;rw [← CU.out,← CA.out];exact q,F3.out⟩
set_option maxRecDepth 100000 in
set_option maxHeartbeats 400000 in
theorem check_any (g : Nat) (L : At5) (b : Bt) (x : Int) (w : World) (h : NB w g L b) :
  Calls Try.prog 146 #[.pointer (some ⟨g,0,none⟩),.int .i64 x] w (Did g L b w):=by
 go_enter Try.func146,Try.ntmps146
 go_wp2_with fail
 exact bodyPost_ret (v:=.tuple #[]) (by simp [results,Try.results146,go_sem]) rfl ⟨rfl,h,Frm.refl _ _⟩
end Go.Proofs.Ytnllndcajdofjaa

/-! A round of the call's own,its box anywhere among its lists: what stays when a place is written. -/
namespace Go.Proofs.Ytnllndcajdofjaa
open Go.RowKit
set_option linter.unusedVariables false

structure NC (w : World) (lo g : Nat) (L : At5) (b : Bt) : Prop where
 blk : Blk w g 27 (btL L b)
 rows : Row5 w lo L b
 lg : lo ≤ g
 ne1 : ∀ a,L.a1 = some a → a.block ≠ g
 ne2 : ∀ a,L.a2 = some a → a.block ≠ g
 ne3 : ∀ a,L.a3 = some a → a.block ≠ g
 ne4 : ∀ a,L.a4 = some a → a.block ≠ g
 ne5 : ∀ a,L.a5 = some a → a.block ≠ g
theorem NC.below {w w' : World} {lo g : Nat} {L : At5} {b : Bt} (h : NC w lo g L b) (hb : Below w.heap.size w w') : NC w' lo g L b:=⟨h.blk.below hb,h.rows.below hb,h.lg,h.ne1,h.ne2,h.ne3,h.ne4,h.ne5⟩
/-- The box is laid behind the lists. -/
theorem NC.new {w : World} {lo : Nat} {L : At5} {b : Bt} (h : Row5 w lo L b) (hl : lo ≤ w.heap.size) : NC (w.alloc (.cells (btL L b).toArray 27)) lo w.heap.size L b :=
 ⟨blk_new w _ _,h.below (bl_alloc (bl_refl w) _),hl,fun a e=>Nat.ne_of_lt (h.r1.1 a e).2,fun a e=>Nat.ne_of_lt (h.r2.1 a e).2,fun a e=>Nat.ne_of_lt (h.r3.1 a e).2,fun a e=>Nat.ne_of_lt (h.r4.1 a e).2,fun a e=>Nat.ne_of_lt (h.r5.1 a e).2⟩
theorem NC.setSt {w : World} {lo g : Nat} {L : At5} {b : Bt} (h : NC w lo g L b) {gf off : Nat} (e : L.a1 = some ⟨gf,off,none⟩) (k : Nat) (hk : k < b.st.length) (v : Int) :
  NC (w.setCell ⟨gf,off + k,none⟩ (.int .i64 v)) lo g L { b with st:=b.st.set k v } ∧ Frm lo w (w.setCell ⟨gf,off + k,none⟩ (.int .i64 v)):=by
 have rj:=h.rows.r1
 rw [e] at rj
 obtain ⟨s1,s2⟩:=rj.setAt k hk v
 have hlo:=(h.rows.r1.1 _ e).1
 have hne:=h.ne1 _ e
 simp only at hlo hne
 refine ⟨⟨?_,?_,h.lg,h.ne1,h.ne2,h.ne3,h.ne4,h.ne5⟩,Frm.of_grown s2 (by omega)⟩
 ·have:=h.blk.grown s2 (fun q=>by have:=Option.some.inj q;omega)
  unfold btL at *
  simpa using this
 ·exact ⟨by rw [e];exact s1,h.rows.r2.grown s2 (fun a ea q=>h.rows.p12 _ a e ea (by simpa using q.symm)),h.rows.r3.grown s2 (fun a ea q=>h.rows.p13 _ a e ea (by simpa using q.symm)),h.rows.r4.grown s2 (fun a ea q=>h.rows.p14 _ a e ea (by simpa using q.symm)),h.rows.r5.grown s2 (fun a ea q=>h.rows.p15 _ a e ea (by simpa using q.symm)),h.rows.p12,h.rows.p13,h.rows.p14,h.rows.p15,h.rows.p23,h.rows.p24,h.rows.p25,h.rows.p34,h.rows.p35,h.rows.p45⟩
theorem NC.setBt {w : World} {lo g : Nat} {L : At5} {b : Bt} (h : NC w lo g L b) {gf off : Nat} (e : L.a2 = some ⟨gf,off,none⟩) (k : Nat) (hk : k < b.bt.length) (v : Int) :
  NC (w.setCell ⟨gf,off + k,none⟩ (.int .i64 v)) lo g L { b with bt:=b.bt.set k v } ∧ Frm lo w (w.setCell ⟨gf,off + k,none⟩ (.int .i64 v)):=by
 have rj:=h.rows.r2
 rw [e] at rj
 obtain ⟨s1,s2⟩:=rj.setAt k hk v
 have hlo:=(h.rows.r2.1 _ e).1
 have hne:=h.ne2 _ e
 simp only at hlo hne
 refine ⟨⟨?_,?_,h.lg,h.ne1,h.ne2,h.ne3,h.ne4,h.ne5⟩,Frm.of_grown s2 (by omega)⟩
 ·have:=h.blk.grown s2 (fun q=>by have:=Option.some.inj q;omega)
  unfold btL at *
  simpa using this
 ·exact ⟨h.rows.r1.grown s2 (fun a ea q=>h.rows.p12 a _ ea e (by simpa using q)),by rw [e];exact s1,h.rows.r3.grown s2 (fun a ea q=>h.rows.p23 _ a e ea (by simpa using q.symm)),h.rows.r4.grown s2 (fun a ea q=>h.rows.p24 _ a e ea (by simpa using q.symm)),h.rows.r5.grown s2 (fun a ea q=>h.rows.p25 _ a e ea (by simpa using q.symm)),h.rows.p12,h.rows.p13,h.rows.p14,h.rows.p15,h.rows.p23,h.rows.p24,h.rows.p25,h.rows.p34,h.rows.p35,h.rows.p45⟩
theorem NC.setFo {w : World} {lo g : Nat} {L : At5} {b : Bt} (h : NC w lo g L b) {gf off : Nat} (e : L.a4 = some ⟨gf,off,none⟩) (k : Nat) (hk : k < b.fo.length) (v : Bool) :
  NC (w.setCell ⟨gf,off + k,none⟩ (.bool v)) lo g L { b with fo:=b.fo.set k v } ∧ Frm lo w (w.setCell ⟨gf,off + k,none⟩ (.bool v)):=by
 have rj:=h.rows.r4
 rw [e] at rj
 obtain ⟨s1,s2⟩:=rj.setAt k hk v
 have hlo:=(h.rows.r4.1 _ e).1
 have hne:=h.ne4 _ e
 simp only at hlo hne
 refine ⟨⟨?_,?_,h.lg,h.ne1,h.ne2,h.ne3,h.ne4,h.ne5⟩,Frm.of_grown s2 (by omega)⟩
 ·have:=h.blk.grown s2 (fun q=>by have:=Option.some.inj q;omega)
  unfold btL at *
  simpa using this
 ·exact ⟨h.rows.r1.grown s2 (fun a ea q=>h.rows.p14 a _ ea e (by simpa using q)),h.rows.r2.grown s2 (fun a ea q=>h.rows.p24 a _ ea e (by simpa using q)),h.rows.r3.grown s2 (fun a ea q=>h.rows.p34 a _ ea e (by simpa using q)),by rw [e];exact s1,h.rows.r5.grown s2 (fun a ea q=>h.rows.p45 _ a e ea (by simpa using q.symm)),h.rows.p12,h.rows.p13,h.rows.p14,h.rows.p15,h.rows.p23,h.rows.p24,h.rows.p25,h.rows.p34,h.rows.p35,h.rows.p45⟩
theorem NC.setAc {w : World} {lo g : Nat} {L : At5} {b : Bt} (h : NC w lo g L b) {gf off : Nat} (e : L.a5 = some ⟨gf,off,none⟩) (k : Nat) (hk : k < b.ac.length) (v : Bool) :
  NC (w.setCell ⟨gf,off + k,none⟩ (.bool v)) lo g L { b with ac:=b.ac.set k v } ∧ Frm lo w (w.setCell ⟨gf,off + k,none⟩ (.bool v)):=by
 have rj:=h.rows.r5
 rw [e] at rj
 obtain ⟨s1,s2⟩:=rj.setAt k hk v
 have hlo:=(h.rows.r5.1 _ e).1
 have hne:=h.ne5 _ e
 simp only at hlo hne
 refine ⟨⟨?_,?_,h.lg,h.ne1,h.ne2,h.ne3,h.ne4,h.ne5⟩,Frm.of_grown s2 (by omega)⟩
 ·have:=h.blk.grown s2 (fun q=>by have:=Option.some.inj q;omega)
  unfold btL at *
  simpa using this
 ·exact ⟨h.rows.r1.grown s2 (fun a ea q=>h.rows.p15 a _ ea e (by simpa using q)),h.rows.r2.grown s2 (fun a ea q=>h.rows.p25 a _ ea e (by simpa using q)),h.rows.r3.grown s2 (fun a ea q=>h.rows.p35 a _ ea e (by simpa using q)),h.rows.r4.grown s2 (fun a ea q=>h.rows.p45 a _ ea e (by simpa using q)),by rw [e];exact s1,h.rows.p12,h.rows.p13,h.rows.p14,h.rows.p15,h.rows.p23,h.rows.p24,h.rows.p25,h.rows.p34,h.rows.p35,h.rows.p45⟩
theorem NC.setTu {w w' : World} {lo g : Nat} {L : At5} {b : Bt} (h : NC w lo g L b) (v : Int) (hB : Blk w' g 27 ((btL L b).set 5 (.int .i64 v))) (hg : w.grownBy w' (some g)) : NC w' lo g L { b with tu:=v } ∧ Frm lo w w':=by
 have ne : ∀ {A : Option Addr},(∀ a,A = some a → a.block ≠ g) → ∀ a,A = some a → some a.block ≠ some g:=fun q a ea r=>q a ea (Option.some.inj r)
 exact ⟨⟨hB,⟨h.rows.r1.grown hg (ne h.ne1),h.rows.r2.grown hg (ne h.ne2),h.rows.r3.grown hg (ne h.ne3),h.rows.r4.grown hg (ne h.ne4),h.rows.r5.grown hg (ne h.ne5),h.rows.p12,h.rows.p13,h.rows.p14,h.rows.p15,h.rows.p23,h.rows.p24,h.rows.p25,h.rows.p34,h.rows.p35,h.rows.p45⟩,h.lg,h.ne1,h.ne2,h.ne3,h.ne4,h.ne5⟩,Frm.of_grown hg h.lg⟩
theorem NC.setUn {w w' : World} {lo g : Nat} {L : At5} {b : Bt} (h : NC w lo g L b) (v : Int) (hB : Blk w' g 27 ((btL L b).set 6 (.int .i64 v))) (hg : w.grownBy w' (some g)) : NC w' lo g L { b with un:=v } ∧ Frm lo w w':=by
 have ne : ∀ {A : Option Addr},(∀ a,A = some a → a.block ≠ g) → ∀ a,A = some a → some a.block ≠ some g:=fun q a ea r=>q a ea (Option.some.inj r)
 exact ⟨⟨hB,⟨h.rows.r1.grown hg (ne h.ne1),h.rows.r2.grown hg (ne h.ne2),h.rows.r3.grown hg (ne h.ne3),h.rows.r4.grown hg (ne h.ne4),h.rows.r5.grown hg (ne h.ne5),h.rows.p12,h.rows.p13,h.rows.p14,h.rows.p15,h.rows.p23,h.rows.p24,h.rows.p25,h.rows.p34,h.rows.p35,h.rows.p45⟩,h.lg,h.ne1,h.ne2,h.ne3,h.ne4,h.ne5⟩,Frm.of_grown hg h.lg⟩
theorem NC.setRa {w w' : World} {lo g : Nat} {L : At5} {b : Bt} (h : NC w lo g L b) (v : Int) (hB : Blk w' g 27 ((btL L b).set 7 (.int .i64 v))) (hg : w.grownBy w' (some g)) : NC w' lo g L { b with ra:=v } ∧ Frm lo w w':=by
 have ne : ∀ {A : Option Addr},(∀ a,A = some a → a.block ≠ g) → ∀ a,A = some a → some a.block ≠ some g:=fun q a ea r=>q a ea (Option.some.inj r)
 exact ⟨⟨hB,⟨h.rows.r1.grown hg (ne h.ne1),h.rows.r2.grown hg (ne h.ne2),h.rows.r3.grown hg (ne h.ne3),h.rows.r4.grown hg (ne h.ne4),h.rows.r5.grown hg (ne h.ne5),h.rows.p12,h.rows.p13,h.rows.p14,h.rows.p15,h.rows.p23,h.rows.p24,h.rows.p25,h.rows.p34,h.rows.p35,h.rows.p45⟩,h.lg,h.ne1,h.ne2,h.ne3,h.ne4,h.ne5⟩,Frm.of_grown hg h.lg⟩
/-- A new list of who has acted: a fresh row's address is stored into the box. -/
theorem NC.newAc {w w' : World} {lo g : Nat} {L : At5} {b : Bt} (h : NC w lo g L b) {A : Option Addr} {c : Nat} {ys : List Bool} (hA : RowB w lo A ys) (hf : ∀ a,A = some a → a.block ≠ g ∧ (∀ x,L.a1 = some x → x.block ≠ a.block) ∧ (∀ x,L.a2 = some x → x.block ≠ a.block) ∧ (∀ x,L.a3 = some x → x.block ≠ a.block) ∧ (∀ x,L.a4 = some x → x.block ≠ a.block))
  (hB : Blk w' g 27 ((btL L b).set 4 (.slice A ys.length c))) (hg : w.grownBy w' (some g)) : NC w' lo g { L with a5:=A,c5:=c } { b with ac:=ys } ∧ Frm lo w w':=by
 have ne : ∀ {A : Option Addr},(∀ a,A = some a → a.block ≠ g) → ∀ a,A = some a → some a.block ≠ some g:=fun q a ea r=>q a ea (Option.some.inj r)
 have hA0 : ∀ a,A = some a → a.block ≠ g:=fun a e=>(hf a e).1
 exact ⟨⟨hB,⟨h.rows.r1.grown hg (ne h.ne1),h.rows.r2.grown hg (ne h.ne2),h.rows.r3.grown hg (ne h.ne3),h.rows.r4.grown hg (ne h.ne4),hA.grown hg (ne hA0),h.rows.p12,h.rows.p13,h.rows.p14,fun x a ex ea=>(hf a ea).2.1 x ex,h.rows.p23,h.rows.p24,fun x a ex ea=>(hf a ea).2.2.1 x ex,h.rows.p34,fun x a ex ea=>(hf a ea).2.2.2.1 x ex,fun x a ex ea=>(hf a ea).2.2.2.2 x ex⟩,h.lg,h.ne1,h.ne2,h.ne3,h.ne4,hA0⟩,Frm.of_grown hg h.lg⟩
theorem wpList_store_el {ops : Array Oper} {rest : List Oper} {o : Oper} {a : Go.Act} {w : World} {Q : Exit → Go.Act → World → Prop} (t : TypeId) (hgd : o.guard = none) (x y : Operand) (ho : o.op = .store t x y)
  (hi : (Try.prog.info? t).map (·.size) = some 1) (ad : Addr) (hx : a.eval x = .pointer (some ad)) (v : Value) (hy : a.eval y = v) (h1 : v.oneCell' = true) (u : Value) (hc : w.cell? ad = some u) (hf : w.frozen? ad = false)
  (h : wpList Try.prog ops Q rest (a.put o.dst undef) (w.setCell ad v)) : wpList Try.prog ops Q (o :: rest) a w :=
 wpList_plain hgd fun _ hK=>by
  unfold Oper.wp execOp
  simp only [ho,hx,hy,Instr.storeAt,Instr.sureAddr,Sem.run_bind,Sem.run_pure,Result.andThen_ok,run_store1 w _ t v _ hi h1 hc hf]
  exact hK _ _ h
/-- make of a row of bools. -/
theorem wpList_makeB {ops : Array Oper} {rest : List Oper} {o : Oper} {a : Go.Act} {w : World} {Q : Exit → Go.Act → World → Prop} (hgd : o.guard = none) (l c : Operand) (ho : o.op = .makeSlice 25 l c) (n : Nat) (hl : a.eval l = .int .i64 n) (hc : a.eval c = .int .i64 n) (hn : n ≤ 1000000)
  (h : ∀ w',OwnB w' w.heap.size (.slice (some ⟨w.heap.size,0,none⟩) (List.replicate n false).length n) (List.replicate n false) → Below w.heap.size w w' → wpList Try.prog ops Q rest (a.put o.dst (.slice (some ⟨w.heap.size,0,none⟩) n n)) w') : wpList Try.prog ops Q (o :: rest) a w:=by
 obtain ⟨i0,hi,hz0,hz1,hz2⟩:=info_parts infoBoolL
 refine wpList_make_full w hgd l c 25 ho w.heap.size 4 i0 (.bool false) 1 Try.underlying25 hi hz0 hz1 .i64 .i64 _ _ n hl hc rfl rfl ?_ ?_ (Nat.le_refl _) (fun w' hown hg=>?_)
 ·rw [hz2];omega
 ·unfold maxLen;omega
 ·refine h w' ?_ ((bl_refl _).grown hg (Nat.le_refl _) (fun j hj=>by cases hj))
  have e : (madeCells (Value.bool false).cells (n * 1)).toList = bools (List.replicate n false):=by
   rw [Nat.mul_one,← bools_zeros];exact toList_madeCells_one _ _
  rw [e] at hown
  unfold OwnB
  rw [List.length_replicate]
  exact hown
end Go.Proofs.Ytnllndcajdofjaa
