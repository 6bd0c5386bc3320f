/-
 The model: the first round of a table.
-/
import Derived.Test.YtnllndcajdofjaaQaBetPassG
import Derived.Test.YtnllndcajdofjaaQaSpecBetP
import Derived.Test.YtnllndcajdofjaaQaDrawActG
import Derived.Test.YtnllndcajdofjaaQaBlindFns
import Derived.Test.YtnllndcajdofjaaQaBoolLG
import Derived.Test.YtnllndcajdofjaaQaDraws
namespace Go.Proofs.Ytnllndcajdofjaa
open Go.RowKit
set_option linter.unusedVariables false

theorem wp_makeB {o : Oper} {a : Go.Act} {w : World} {K : Go.Act → World → Prop} {Q : Exit → Go.Act → World → Prop} (l c : Operand) (ho : o.op = .makeSlice 25 l c) (n : Nat) (hl : a.eval l = .int .i64 n) (hc : a.eval c = .int .i64 n) (hn : n ≤ 1000000)
  (h : ∀ w',OwnB w' w.heap.size (.slice (some ⟨w.heap.size,0,none⟩) (List.replicate n false).length n) (List.replicate n false) → Below w.heap.size w w' → K (a.put o.dst (.slice (some ⟨w.heap.size,0,none⟩) n n)) w') : o.wp Try.prog a w K Q:=by
 obtain ⟨i0,hi,hz0,hz1,hz2⟩:=info_parts infoBoolL
 obtain ⟨w',hrun,hown,hg⟩:=run_make_full (P:=Try.prog) w w.heap.size 25 4 i0 (.bool false) 1 Try.underlying25 hi hz0 hz1 .i64 .i64 n (by rw [hz2];omega) (by unfold maxLen;omega) (Nat.le_refl _)
 unfold Oper.wp
 simp [execOp,ho,hl,hc,hrun,Result.andThen]
 refine h w' ?_ ((bl_refl _).grown hg (Nat.le_refl _) (fun j hj=>by cases hj))
 have e : (madeCells (Value.bool false).cells (n * 1)).toList = bools (List.replicate n false):=by
  rw [Nat.mul_one,← bools_zeros];exact toList_madeCells_one _ _
 rw [e] at hown
 unfold OwnB
 rw [List.length_replicate]
 exact hown
theorem own_atG {w : World} {lo g k : Nat} {xs : List Int} (h : Own w lo (.slice (some ⟨g,0,none⟩) xs.length k) xs) (i : Nat) (hi : i < xs.length) :
  w.cell? ⟨g,i,none⟩ = some (.int .i64 (nth xs i)) ∧ w.frozen? ⟨g,i,none⟩ = false :=
 ⟨by rw [World.ownsRow.cellAt h i (by omega),ints_get _ _ hi],World.ownsRow.frozenAt h i⟩
/-- What has been made,in whatever order: two rows of bools and a box. -/
structure Mk (W8 : World) (n : Nat) (P Q G : Option Nat) (W : World) : Prop where
 bx : Below W8.heap.size W8 W
 p : ∀ x,P = some x → W8.heap.size ≤ x ∧ x < W.heap.size ∧ RowB W W8.heap.size (some ⟨x,0,none⟩) (List.replicate n false)
 q : ∀ x,Q = some x → W8.heap.size ≤ x ∧ x < W.heap.size ∧ RowB W W8.heap.size (some ⟨x,0,none⟩) (List.replicate n false)
 g : ∀ x,G = some x → W8.heap.size ≤ x ∧ x < W.heap.size ∧ Blk W x 27 [.slice none 0 0,.slice none 0 0,.slice none 0 0,.slice none 0 0,.slice none 0 0,.int .i64 0,.int .i64 0,.int .i64 0,.int .i64 0]
 pq : ∀ x y,P = some x → Q = some y → x ≠ y
 pg : ∀ x y,P = some x → G = some y → x ≠ y
 qg : ∀ x y,Q = some x → G = some y → x ≠ y
section
variable {W8 W W' : World} {n : Nat} {P Q G : Option Nat}
theorem Mk.start (W8 : World) (n : Nat) : Mk W8 n none none none W8:=⟨bl_refl _,fun _ e=>(by cases e),fun _ e=>(by cases e),fun _ e=>(by cases e),fun _ _ e=>(by cases e),fun _ _ e=>(by cases e),fun _ _ e=>(by cases e)⟩
theorem Mk.below (h : Mk W8 n P Q G W) (hb : Below W.heap.size W W') : Mk W8 n P Q G W':=by
 have:=hb.size
 exact ⟨bl_trans h.bx hb,fun x e=>⟨(h.p x e).1,by have:=(h.p x e).2.1;omega,(h.p x e).2.2.below hb⟩,fun x e=>⟨(h.q x e).1,by have:=(h.q x e).2.1;omega,(h.q x e).2.2.below hb⟩,fun x e=>⟨(h.g x e).1,by have:=(h.g x e).2.1;omega,(h.g x e).2.2.below hb⟩,h.pq,h.pg,h.qg⟩
theorem Mk.mkP (h : Mk W8 n none Q G W) (ho : OwnB W' W.heap.size (.slice (some ⟨W.heap.size,0,none⟩) (List.replicate n false).length n) (List.replicate n false)) (hb : Below W.heap.size W W') : Mk W8 n (some W.heap.size) Q G W':=by
 have k:=h.below hb
 have hs:=h.bx.size
 have hr:=RowB.of_own ho
 refine ⟨k.bx,fun x e=>by obtain rfl:=Option.some.inj e;exact ⟨hs,(hr.1 _ rfl).2,hr.less hs⟩,k.q,k.g,fun x y e f=>?_,fun x y e f=>?_,k.qg⟩
 ·obtain rfl:=Option.some.inj e
  have:=(h.q y f).2.1;omega
 ·obtain rfl:=Option.some.inj e
  have:=(h.g y f).2.1;omega
theorem Mk.mkQ (h : Mk W8 n P none G W) (ho : OwnB W' W.heap.size (.slice (some ⟨W.heap.size,0,none⟩) (List.replicate n false).length n) (List.replicate n false)) (hb : Below W.heap.size W W') : Mk W8 n P (some W.heap.size) G W':=by
 have k:=h.below hb
 have hs:=h.bx.size
 have hr:=RowB.of_own ho
 refine ⟨k.bx,k.p,fun x e=>by obtain rfl:=Option.some.inj e;exact ⟨hs,(hr.1 _ rfl).2,hr.less hs⟩,k.g,fun x y e f=>?_,k.pg,fun x y e f=>?_⟩
 ·obtain rfl:=Option.some.inj f
  have:=(h.p x e).2.1;omega
 ·obtain rfl:=Option.some.inj e
  have:=(h.g y f).2.1;omega
theorem Mk.mkG (h : Mk W8 n P Q none W) : Mk W8 n P Q (some W.heap.size) (W.alloc (.cells ([.slice none 0 0,.slice none 0 0,.slice none 0 0,.slice none 0 0,.slice none 0 0,.int .i64 0,.int .i64 0,.int .i64 0,.int .i64 0] : List Value).toArray 27)):=by
 have k:=h.below (bl_alloc (bl_refl W) (.cells ([.slice none 0 0,.slice none 0 0,.slice none 0 0,.slice none 0 0,.slice none 0 0,.int .i64 0,.int .i64 0,.int .i64 0,.int .i64 0] : List Value).toArray 27))
 have hs:=h.bx.size
 refine ⟨k.bx,k.p,k.q,fun x e=>by obtain rfl:=Option.some.inj e;exact ⟨hs,by rw [World.size_alloc];omega,blk_new W _ _⟩,k.pq,fun x y e f=>?_,fun x y e f=>?_⟩
 ·obtain rfl:=Option.some.inj f
  have:=(h.p x e).2.1;omega
 ·obtain rfl:=Option.some.inj f
  have:=(h.q x e).2.1;omega
/-- Three rows of numbers,apart. -/
structure Row3 (w : World) (lo : Nat) (A1 A2 A3 : Option Addr) (x1 x2 x3 : List Int) : Prop where
 r1 : Row w lo A1 x1
 r2 : Row w lo A2 x2
 r3 : Row w lo A3 x3
 p12 : Apt A1 A2
 p13 : Apt A1 A3
 p23 : Apt A2 A3
theorem apt_hi {A : Option Addr} {x lo : Nat} {w : World} {xs : List Int} (h : Row w lo A xs) (hx : w.heap.size ≤ x) : Apt A (some ⟨x,0,none⟩):=fun a b ea eb=>by
 obtain rfl:=Option.some.inj eb
 have:=(h.1 a ea).2
 simp only;omega
theorem Mk.done {x y z lo : Nat} {A1 A2 A3 : Option Addr} {c1 c2 c3 : Nat} {d : Bt} (h : Mk W8 n (some x) (some y) (some z) W) (r : Row3 W8 lo A1 A2 A3 d.st d.bt d.pd) (hl : lo ≤ W8.heap.size) (hf : d.fo = List.replicate n false) (ha : d.ac = List.replicate n false)
  (hk : Blk W' z 27 (btL ⟨A1,A2,A3,some ⟨x,0,none⟩,some ⟨y,0,none⟩,c1,c2,c3,n,n⟩ d)) (hg : W.grownBy W' (some z)) : NC W' lo z ⟨A1,A2,A3,some ⟨x,0,none⟩,some ⟨y,0,none⟩,c1,c2,c3,n,n⟩ d:=by
 have hz:=(h.g z rfl).1
 have hx:=h.p x rfl
 have hy:=h.q y rfl
 have nz : ∀ {A : Option Addr} {xs : List Int},Row W8 lo A xs → ∀ a,A = some a → a.block ≠ z:=fun q a e=>by have:=(q.1 a e).2;omega
 have up : ∀ {A : Option Addr} {xs : List Int},Row W8 lo A xs → Row W' lo A xs:=fun q=>(q.below h.bx).grown hg (fun a e f=>nz q a e (Option.some.inj f))
 have sx : x ≠ z:=h.pg x z rfl rfl
 have sy : y ≠ z:=h.qg y z rfl rfl
 refine ⟨hk,⟨up r.r1,up r.r2,up r.r3,?_,?_,r.p12,r.p13,apt_hi r.r1 hx.1,apt_hi r.r1 hy.1,r.p23,apt_hi r.r2 hx.1,apt_hi r.r2 hy.1,apt_hi r.r3 hx.1,apt_hi r.r3 hy.1,fun a b ea eb=>?_⟩,by omega,nz r.r1,nz r.r2,nz r.r3,fun a e=>?_,fun a e=>?_⟩
 ·show RowB W' lo (some ⟨x,0,none⟩) d.fo
  rw [hf]
  exact (hx.2.2.grown hg (fun a e f=>by obtain rfl:=Option.some.inj e;exact sx (Option.some.inj f))).less hl
 ·show RowB W' lo (some ⟨y,0,none⟩) d.ac
  rw [ha]
  exact (hy.2.2.grown hg (fun a e f=>by obtain rfl:=Option.some.inj e;exact sy (Option.some.inj f))).less hl
 ·obtain rfl:=Option.some.inj ea
  obtain rfl:=Option.some.inj eb
  exact h.pq x y rfl rfl
 ·obtain rfl:=Option.some.inj e
  exact sx
 ·obtain rfl:=Option.some.inj e
  exact sy
end
theorem prev_seat (n f : Int) (h2 : 2 ≤ n) (h6 : n ≤ 6) (f0 : 0 ≤ f) (f1 : f < n) : ∃ r : Int,(f + n - 1).tmod n = r ∧ 0 ≤ r ∧ r < n ∧ leftI r n = f:=by
 refine ⟨(f + n - 1) % n,Int.tmod_eq_emod_of_nonneg (by omega),Int.emod_nonneg _ (by omega),Int.emod_lt_of_pos _ (by omega),?_⟩
 unfold leftI
 have : n = 2 ∨ n = 3 ∨ n = 4 ∨ n = 5 ∨ n = 6:=by omega
 rcases this with rfl | rfl | rfl | rfl | rfl <;> omega
theorem nxtG_S (d : Bt) (r f : Int) (h : leftI r d.st.length = f) : nxtG d r = nxtS d f:=by subst h;rfl
theorem goB0_take (xs : List Int) (b s g a l : Int) (k : Nat) (h : k < xs.length) : (goB0 xs b s g a l).st.take (k + 1) = (goB0 xs b s g a l).st.take k ++ [nth xs k - nth (anteL xs a) k - nth (blindL xs b s g a) k]:=by
 rw [take_nth _ k (by rw [goB0_len];exact h),goB0_st xs b s g a l k h]
set_option maxRecDepth 100000 in
set_option maxHeartbeats 8000000 in
theorem l10Start_any (A : Option Addr) (c : Nat) (xs : List Int) (b s g a l : Int) (w : World) (hr : Rd w A xs) (hv : tabB xs b s g a l = true) :
  Calls Try.prog 114 #[tV A xs.length c b s g a l] w (NewBx (goB xs b s g a l) w):=by
 have hmx : Try.prog.follows .mixedOrders = true:=by kernel_rfl
 have iB : (Try.prog.info? 27).map (·.size) = some 9:=by kernel_rfl
 have i1 : (Try.prog.info? 2).map (·.size) = some 1:=by kernel_rfl
 obtain ⟨i0,hi,hz0,hz1,hz2⟩:=info_parts infoInt
 obtain ⟨h2,h6,hx,b0,b1,g0,g1,s0,s1,a0,a1,l0,l1⟩:=tab_iff.1 hv
 have KF:=Lib.hid (goF hv)
 have KD:=Lib.hid (sd_go hv)
 have KT:=Lib.hid (goB0_take xs b s g a l)
 have KL:=Lib.hid (goB0_len xs b s g a l)
 have fb:=first_bd xs.length b (by omega)
 obtain ⟨r,hrm,r0,r1,hrl⟩:=prev_seat xs.length (firstI xs.length b 0) (by omega) (by omega) fb.1 fb.2
 have HRL:=Lib.hid hrl
 have KFi:=Lib.hid (fun (W : World)=>specFirst_any A c xs b s g a l 0 W h2 h6 b0 b1)
 have KA:=Lib.hid (fun (W : World) (h : Rd W A xs)=>specAntes_any A c xs b s g a l W h h6)
 have KB:=Lib.hid (fun (W : World) (h : Rd W A xs)=>specBets_any A c xs b s g a l W h hv)
 have HR:=Lib.hid hr
 have eG : goB xs b s g a l = begB (goB0 xs b s g a l) (firstI xs.length b 0):=rfl
 rw [eG]
 clear eG hrl
 have fb0:=Lib.hid fb.1
 have fb1:=Lib.hid fb.2
 have epd : (goB0 xs b s g a l).pd = anteL xs a:=rfl
 have ebt : (goB0 xs b s g a l).bt = blindL xs b s g a:=rfl
 have lpd : (anteL xs a).length = xs.length:=anteL_len ..
 have lbt : (blindL xs b s g a).length = xs.length:=blindL_len ..
 obtain ⟨d,ed⟩ : ∃ d,d = goB0 xs b s g a l:=⟨_,rfl⟩
 have EFO : Hid (d.fo = List.replicate xs.length false):=by rw [ed];exact Lib.hid rfl
 have EAC : Hid (d.ac = List.replicate xs.length false):=by rw [ed];exact Lib.hid rfl
 have EUN : Hid (d.un = g ∧ d.ra = 0 ∧ d.li = l ∧ d.tu = 0):=by rw [ed];exact Lib.hid ⟨rfl,rfl,rfl,rfl⟩
 rw [← ed] at KF KD KT KL epd ebt ⊢
 generalize anteL xs a = ya at *
 generalize blindL xs b s g a = yb at *
 have EPD:=Lib.hid epd
 have EBT:=Lib.hid ebt
 have LYA:=Lib.hid lpd
 have LYB:=Lib.hid lbt
 generalize firstI xs.length b 0 = f at *
 obtain ⟨nx,enx⟩ : ∃ nx,nx = nxtS { d with tu:=f } f:=⟨_,rfl⟩
 have KN : Hid (∀ (L : At5) (W : World),Rd5 W L { d with tu:=f } → Calls Try.prog 152 #[bV L { d with tu:=f },.int .i64 r] W (Fresh (.int .i64 nx) W)):=Lib.hid (fun L W h=>by
  have q:=l10Next_any L { d with tu:=f } r W h ⟨KD.out.n2,KD.out.n6,KD.out.l2,KD.out.l3,KD.out.l4,KD.out.l5,KD.out.s2⟩ r0 (by omega)
  rw [nxtG_S { d with tu:=f } r f (by show leftI r (d.st.length : Int) = f;rw [KL.out];exact HRL.out),← enx] at q
  exact q)
 have eB : begB d f = { d with tu:=nx }:=by rw [enx];rfl
 rw [eB]
 clear hr hx ed epd ebt fb hv lpd lbt enx eB KD HRL
 obtain ⟨bA,oA,rfl,-⟩:=HR.out.at_0 0 (by omega)
 have h0' : (0 : Int) < xs.length:=by omega
 have bb1:=bl_alloc (bl_refl w) (.cells ([.slice (some ⟨bA,oA,none⟩) xs.length c,.int .i64 b,.int .i64 s,.int .i64 g,.int .i64 a,.int .i64 l] : List Value).toArray 49)
 have bb2:=bl_alloc (bl_refl (w.alloc (.cells ([.slice (some ⟨bA,oA,none⟩) xs.length c,.int .i64 b,.int .i64 s,.int .i64 g,.int .i64 a,.int .i64 l] : List Value).toArray 49))) (.cells ([.slice none 0 0,.slice none 0 0,.slice none 0 0,.slice none 0 0,.slice none 0 0,.int .i64 0,.int .i64 0,.int .i64 0,.int .i64 0] : List Value).toArray 27)
 have nt:=(blk_new w 49 [.slice (some ⟨bA,oA,none⟩) xs.length c,.int .i64 b,.int .i64 s,.int .i64 g,.int .i64 a,.int .i64 l]).below bb2
 have nz:=blk_new (w.alloc (.cells ([.slice (some ⟨bA,oA,none⟩) xs.length c,.int .i64 b,.int .i64 s,.int .i64 g,.int .i64 a,.int .i64 l] : List Value).toArray 49)) 27 [.slice none 0 0,.slice none 0 0,.slice none 0 0,.slice none 0 0,.slice none 0 0,.int .i64 0,.int .i64 0,.int .i64 0,.int .i64 0]
 rw [World.size_alloc] at nz
 obtain ⟨W1,eW⟩ : ∃ W1,W1 = (w.alloc (.cells ([.slice (some ⟨bA,oA,none⟩) xs.length c,.int .i64 b,.int .i64 s,.int .i64 g,.int .i64 a,.int .i64 l] : List Value).toArray 49)).alloc (.cells ([.slice none 0 0,.slice none 0 0,.slice none 0 0,.slice none 0 0,.slice none 0 0,.int .i64 0,.int .i64 0,.int .i64 0,.int .i64 0] : List Value).toArray 27):=⟨_,rfl⟩
 have z1 : W1.heap.size = w.heap.size + 1 + 1:=by rw [eW,World.size_alloc,World.size_alloc]
 have B0:=bl_trans bb1 bb2
 rw [← eW] at nt nz B0
 have NT:=Lib.hid nt
 have NZ:=Lib.hid nz
 have B:=Lib.hid B0
 clear bb1 bb2 nt nz B0
 unfold tV bV at *
 go_enter Try.func114,Try.ntmps114
 go_wp2_with fail
 simp only [List.toArray] at eW
 rw [← eW]
 clear eW
 refine wp_region_W (last:=5) (k:=5) hmx rfl (fun HC0=>?_)
 refine wpAnyR_takeL (i:=0) (kw:=6) (v:=.agg #[.slice (some ⟨bA,oA,none⟩) xs.length c,.int .i64 b,.int .i64 s,.int .i64 g,.int .i64 a,.int .i64 l]) (fun _=>bl_refl _) (fun p q=>bl_trans p q) rfl rfl (by kernel_rfl) (by kernel_rfl) (by kernel_rfl) (by kernel_rfl) (fun _ _ _ h=>h) HC0 (Or.inl ⟨by kernel_rfl,fun W' hI=>?_⟩) (fun HC1=>?_)
 ·have hv:=(NT.out).below hI
  obtain ⟨z0,_⟩:=hv.cell 0 _ rfl
  obtain ⟨z1,_⟩:=hv.cell 1 _ rfl
  obtain ⟨z2,_⟩:=hv.cell 2 _ rfl
  obtain ⟨z3,_⟩:=hv.cell 3 _ rfl
  obtain ⟨z4,_⟩:=hv.cell 4 _ rfl
  obtain ⟨z5,_⟩:=hv.cell 5 _ rfl
  exact .inl (by go_simp)
 refine wpAnyR_takeL (i:=2) (kw:=2) (v:=.agg #[.slice (some ⟨bA,oA,none⟩) xs.length c,.int .i64 b,.int .i64 s,.int .i64 g,.int .i64 a,.int .i64 l]) (fun _=>bl_refl _) (fun p q=>bl_trans p q) rfl rfl (by kernel_rfl) (by kernel_rfl) (by kernel_rfl) (by kernel_rfl) (fun _ _ _ h=>h) HC1 (Or.inl ⟨by kernel_rfl,fun W' hI=>?_⟩) (fun HC2=>?_)
 ·have hv:=(NT.out).below hI
  obtain ⟨z0,_⟩:=hv.cell 0 _ rfl
  obtain ⟨z1,_⟩:=hv.cell 1 _ rfl
  obtain ⟨z2,_⟩:=hv.cell 2 _ rfl
  obtain ⟨z3,_⟩:=hv.cell 3 _ rfl
  obtain ⟨z4,_⟩:=hv.cell 4 _ rfl
  obtain ⟨z5,_⟩:=hv.cell 5 _ rfl
  exact .inl (by go_simp)
 refine wpAnyR_oneL HC2 (i:=1) (by kernel_rfl) rfl (by kernel_rfl) (fun w2 hr=>⟨bl_drewT hr,?_⟩)
 intro K hK
 have X2:=Lib.hid (bl_drewT hr)
 have KA2:=Lib.hid (KA.out w2 (HR.out.below (bl_trans B.out X2.out)))
 clear hr
 go_simp
 go_wp2_with (go_at_call 160;refine KA2.out.mono ?_;rintro e w3 ⟨A1,k1,rfl,ho,hb⟩;have O1:=Lib.hid ho;have X3:=Lib.hid (bl_trans X2.out hb);have q2:=Lib.hid X2.out.size;clear ho hb X2 KA2)
 intro HC3
 refine wpAnyR_oneL HC3 (i:=3) (by kernel_rfl) rfl (by kernel_rfl) (fun w4 hr=>⟨bl_trans X3.out hr,?_⟩)
 intro K hK
 have X4:=Lib.hid (bl_trans X3.out hr)
 have KB4:=Lib.hid (KB.out w4 (HR.out.below (bl_trans B.out X4.out)))
 have O14:=Lib.hid (O1.out.below hr)
 clear hr O1 X3
 go_simp
 go_wp2_with (go_at_call 161;refine KB4.out.mono ?_;rintro e w5 ⟨A2,k2,rfl,ho,hb⟩;have AP:=Lib.hid (apt_lt (fun a e=>(O14.out.lo_le a e).2) (fun b e=>(ho.lo_le b e).1));have O2:=Lib.hid (ho.less X4.out.size);have O1:=Lib.hid ((O14.out.below hb).less q2.out);have X5:=Lib.hid (bl_trans X4.out hb);clear ho hb X4 KB4 O14)
 intro HC4
 refine wpAnyR_takeL (i:=4) (kw:=2) (v:=.slice A1 ya.length k1) (fun _=>bl_refl _) (fun p q=>bl_trans p q) rfl rfl (by kernel_rfl) (by kernel_rfl) (by kernel_rfl) (by kernel_rfl) (fun _ _ _ h=>h) HC4 (Or.inl ⟨by kernel_rfl,fun W' hI=>?_⟩) (fun HC5=>?_)
 ·exact .inl (by go_simp)
 refine wpAnyR_lastL (by kernel_rfl) (by kernel_rfl) rfl (by kernel_rfl) (fun wR hrR=>⟨bl_trans X5.out hrR,?_⟩)
 intro K hK
 have X6:=Lib.hid (bl_trans X5.out hrR)
 have O16:=Lib.hid (O1.out.below hrR)
 have O26:=Lib.hid (O2.out.below hrR)
 clear hrR O1 O2 X5
 go_simp
 refine hK _ _ ?_
 clear hK K
 have NT6:=Lib.hid (NT.out.below X6.out)
 obtain ⟨t0,-⟩:=NT6.out.cell 0 _ rfl
 obtain ⟨g1',rfl,-⟩:=own_some O16.out (by have:=LYA.out;omega)
 obtain ⟨g2',rfl,-⟩:=own_some O26.out (by have:=LYB.out;omega)
 have G0 : Hid (Grow wR (d.st.take 0) (.slice (some ⟨wR.heap.size,0,none⟩) 0 0) (wR.alloc (.cells #[] 2))):=Lib.hid ⟨own_new _,bl_alloc (bl_refl _) _⟩
 go_wp2_with fail
 go_loopw [6,7] (fun v i wr=>∃ k : Nat,k ≤ xs.length ∧ i = .int .i64 k ∧ Hid (Grow wR (d.st.take k) v wr)) (fun _ i _=>xs.length - (intOf i).toNat)
 case atStart=>exact ⟨0,Nat.zero_le _,rfl,G0⟩
 case round =>
  obtain ⟨k,hk,rfl,HS⟩:=hrel
  clear G0 t0
  have NTw:=Lib.hid (NT6.out.below HS.out.2)
  by_cases hlt : k < xs.length
  ·have hlt' : (k : Int) < xs.length:=by omega
   have hlt1 : (k : Int) < ya.length:=by rw [LYA.out];omega
   have hlt2 : (k : Int) < yb.length:=by rw [LYB.out];omega
   have hl : (d.st.take k).length ≤ 6:=by rw [List.length_take,KL.out];omega
   have HO:=Lib.hid (KT.out k hlt)
   obtain ⟨bq,oq,eq,hc1⟩:=(HR.out.below (bl_trans B.out X6.out)).at_0 k hlt
   obtain ⟨rfl,rfl⟩ : bA = bq ∧ oA = oq:=by simpa using eq
   have c2:=own_atG O16.out k (by rw [LYA.out];exact hlt)
   have c3:=own_atG O26.out k (by rw [LYB.out];exact hlt)
   have bd:=KF.out.at_ k hlt
   rw [EPD.out,EBT.out] at bd
   clear eq
   generalize nth xs k = x at *
   generalize nth ya k = y at *
   generalize nth yb k = z at *
   generalize d.st.take k = ys at *
   have H1 : Hid (∀ W',Below wR.heap.size wR W' → W'.cell? ⟨bA,oA + k,none⟩ = some (.int .i64 x)):=Lib.hid (fun W' hI=>(hI.cell (p:=⟨bA,oA + k,none⟩) (World.block_lt_of_cell? _ _ hc1)).trans hc1)
   have H2 : Hid (∀ W',Below wR.heap.size wR W' → W'.cell? ⟨g1',k,none⟩ = some (.int .i64 y)):=Lib.hid (fun W' hI=>(hI.cell (p:=⟨g1',k,none⟩) (World.block_lt_of_cell? _ _ c2.1)).trans c2.1)
   have H3 : Hid (∀ W',Below wR.heap.size wR W' → W'.cell? ⟨g2',k,none⟩ = some (.int .i64 z)):=Lib.hid (fun W' hI=>(hI.cell (p:=⟨g2',k,none⟩) (World.block_lt_of_cell? _ _ c3.1)).trans c3.1)
   clear hc1 c2 c3
   go_wp2_with fail
   refine wp_region_R (R:=fun a b=>Below a.heap.size a b) (I:=fun W'=>Below wR.heap.size wR W') (last:=18) (k:=18) (fun _=>bl_refl _) hmx rfl (fun HC0=>?_)
   refine wpAnyR_takeL (i:=0) (kw:=2) (v:=u6) (fun _=>bl_refl _) (fun p q=>bl_trans p q) rfl rfl (by kernel_rfl) (by kernel_rfl) (by kernel_rfl) (by kernel_rfl) (fun _ _ _ h=>h) HC0 (Or.inl ⟨by kernel_rfl,fun W' hI=>?_⟩) (fun HC1=>?_)
   ·exact .inl (by go_simp)
   refine wpAnyR_takeL (i:=1) (kw:=8) (v:=.pointer (some ⟨w.heap.size,0,none⟩)) (fun _=>bl_refl _) (fun p q=>bl_trans p q) rfl rfl (by kernel_rfl) (by kernel_rfl) (by kernel_rfl) (by kernel_rfl) (fun _ _ _ h=>h) HC1 (Or.inl ⟨by kernel_rfl,fun W' hI=>?_⟩) (fun HC2=>?_)
   ·exact .inl (by go_simp)
   refine wpAnyR_takeL (i:=2) (kw:=7) (v:=.slice (some ⟨bA,oA,none⟩) xs.length c) (fun _=>bl_refl _) (fun p q=>bl_trans p q) rfl rfl (by kernel_rfl) (by kernel_rfl) (by kernel_rfl) (by kernel_rfl) (fun _ _ _ h=>h) HC2 (Or.inl ⟨by kernel_rfl,fun W' hI=>?_⟩) (fun HC3=>?_)
   ·have hv:=(NT6.out).below hI
    obtain ⟨z0,_⟩:=hv.cell 0 _ rfl
    exact .inl (by go_simp)
   refine wpAnyR_takeL (i:=3) (kw:=7) (v:=.int .i64 k) (fun _=>bl_refl _) (fun p q=>bl_trans p q) rfl rfl (by kernel_rfl) (by kernel_rfl) (by kernel_rfl) (by kernel_rfl) (fun _ _ _ h=>h) HC3 (Or.inl ⟨by kernel_rfl,fun W' hI=>?_⟩) (fun HC4=>?_)
   ·exact .inl (by go_simp)
   refine wpAnyR_takeL (i:=4) (kw:=6) (v:=.pointer (some ⟨bA,oA + k,none⟩)) (fun _=>bl_refl _) (fun p q=>bl_trans p q) rfl rfl (by kernel_rfl) (by kernel_rfl) (by kernel_rfl) (by kernel_rfl) (fun _ _ _ h=>h) HC4 (Or.inl ⟨by kernel_rfl,fun W' hI=>?_⟩) (fun HC5=>?_)
   ·exact .inl (by go_simp)
   refine wpAnyR_takeL (i:=5) (kw:=5) (v:=.int .i64 x) (fun _=>bl_refl _) (fun p q=>bl_trans p q) rfl rfl (by kernel_rfl) (by kernel_rfl) (by kernel_rfl) (by kernel_rfl) (fun _ _ _ h=>h) HC5 (Or.inl ⟨by kernel_rfl,fun W' hI=>?_⟩) (fun HC6=>?_)
   ·have hx:=H1.out W' hI
    exact .inl (by go_simp)
   refine wpAnyR_takeL (i:=6) (kw:=7) (v:=.slice (some ⟨g1',0,none⟩) ya.length k1) (fun _=>bl_refl _) (fun p q=>bl_trans p q) rfl rfl (by kernel_rfl) (by kernel_rfl) (by kernel_rfl) (by kernel_rfl) (fun _ _ _ h=>h) HC6 (Or.inl ⟨by kernel_rfl,fun W' hI=>?_⟩) (fun HC7=>?_)
   ·exact .inl (by go_simp)
   refine wpAnyR_takeL (i:=7) (kw:=7) (v:=.int .i64 k) (fun _=>bl_refl _) (fun p q=>bl_trans p q) rfl rfl (by kernel_rfl) (by kernel_rfl) (by kernel_rfl) (by kernel_rfl) (fun _ _ _ h=>h) HC7 (Or.inl ⟨by kernel_rfl,fun W' hI=>?_⟩) (fun HC8=>?_)
   ·exact .inl (by go_simp)
   refine wpAnyR_takeL (i:=8) (kw:=6) (v:=.pointer (some ⟨g1',k,none⟩)) (fun _=>bl_refl _) (fun p q=>bl_trans p q) rfl rfl (by kernel_rfl) (by kernel_rfl) (by kernel_rfl) (by kernel_rfl) (fun _ _ _ h=>h) HC8 (Or.inl ⟨by kernel_rfl,fun W' hI=>?_⟩) (fun HC9=>?_)
   ·exact .inl (by go_simp)
   refine wpAnyR_takeL (i:=9) (kw:=5) (v:=.int .i64 y) (fun _=>bl_refl _) (fun p q=>bl_trans p q) rfl rfl (by kernel_rfl) (by kernel_rfl) (by kernel_rfl) (by kernel_rfl) (fun _ _ _ h=>h) HC9 (Or.inl ⟨by kernel_rfl,fun W' hI=>?_⟩) (fun HC10=>?_)
   ·have hx:=H2.out W' hI
    exact .inl (by go_simp)
   refine wpAnyR_takeL (i:=10) (kw:=4) (v:=.int .i64 (x - y)) (fun _=>bl_refl _) (fun p q=>bl_trans p q) rfl rfl (by kernel_rfl) (by kernel_rfl) (by kernel_rfl) (by kernel_rfl) (fun _ _ _ h=>h) HC10 (Or.inl ⟨by kernel_rfl,fun W' hI=>?_⟩) (fun HC11=>?_)
   ·exact .inl (by go_simp;first | done | exact IntWalk.i64_in _ (by omega))
   refine wpAnyR_takeL (i:=11) (kw:=6) (v:=.slice (some ⟨g2',0,none⟩) yb.length k2) (fun _=>bl_refl _) (fun p q=>bl_trans p q) rfl rfl (by kernel_rfl) (by kernel_rfl) (by kernel_rfl) (by kernel_rfl) (fun _ _ _ h=>h) HC11 (Or.inl ⟨by kernel_rfl,fun W' hI=>?_⟩) (fun HC12=>?_)
   ·exact .inl (by go_simp)
   refine wpAnyR_takeL (i:=12) (kw:=6) (v:=.int .i64 k) (fun _=>bl_refl _) (fun p q=>bl_trans p q) rfl rfl (by kernel_rfl) (by kernel_rfl) (by kernel_rfl) (by kernel_rfl) (fun _ _ _ h=>h) HC12 (Or.inl ⟨by kernel_rfl,fun W' hI=>?_⟩) (fun HC13=>?_)
   ·exact .inl (by go_simp)
   refine wpAnyR_takeL (i:=13) (kw:=5) (v:=.pointer (some ⟨g2',k,none⟩)) (fun _=>bl_refl _) (fun p q=>bl_trans p q) rfl rfl (by kernel_rfl) (by kernel_rfl) (by kernel_rfl) (by kernel_rfl) (fun _ _ _ h=>h) HC13 (Or.inl ⟨by kernel_rfl,fun W' hI=>?_⟩) (fun HC14=>?_)
   ·exact .inl (by go_simp)
   refine wpAnyR_takeL (i:=14) (kw:=4) (v:=.int .i64 z) (fun _=>bl_refl _) (fun p q=>bl_trans p q) rfl rfl (by kernel_rfl) (by kernel_rfl) (by kernel_rfl) (by kernel_rfl) (fun _ _ _ h=>h) HC14 (Or.inl ⟨by kernel_rfl,fun W' hI=>?_⟩) (fun HC15=>?_)
   ·have hx:=H3.out W' hI
    exact .inl (by go_simp)
   refine wpAnyR_takeL (i:=15) (kw:=3) (v:=.int .i64 ((x - y) - z)) (fun _=>bl_refl _) (fun p q=>bl_trans p q) rfl rfl (by kernel_rfl) (by kernel_rfl) (by kernel_rfl) (by kernel_rfl) (fun _ _ _ h=>h) HC15 (Or.inl ⟨by kernel_rfl,fun W' hI=>?_⟩) (fun HC16=>?_)
   ·exact .inl (by go_simp;first | done | exact IntWalk.i64_in _ (by omega))
   refine wpAnyR_oneL HC16 (i:=16) (by kernel_rfl) rfl (by kernel_rfl) (fun w5 hr5=>⟨bl_trans HS.out.2 (bl_drewT hr5),?_⟩)
   intro K hK
   have hb4:=bl_drewT hr5
   go_simp
   refine hK _ _ ?_
   clear hK K
   intro HC17
   have hb5 : Below wr.heap.size wr (w5.alloc (.cells #[.int .i64 (x - y - z)] 2)):=bl_trans hb4 (bl_alloc (bl_refl _) _)
   have nb:=blk_new w5 2 [.int .i64 (x - y - z)]
   refine wpAnyR_oneL HC17 (i:=17) (by kernel_rfl) rfl (by kernel_rfl) (fun w7 hr7=>⟨bl_trans HS.out.2 (bl_trans hb5 hr7),?_⟩)
   intro K hK
   have hb7 : Below wr.heap.size wr w7:=bl_trans hb5 hr7
   have HW:=Lib.hid (nb.below hr7)
   refine wp_app_own (.tmp 23) (.tmp 39) rfl wR.heap.size u6 ys (by simp [Act.eval]) ?o1 ⟨w5.heap.size,0,none⟩ 1 (x - y - z) (by simp [Act.eval]) (HW.out.cell 0 _ rfl).1 rfl (by omega) ?o2 ?_
   case o1=>exact HS.out.1.below hb7
   case o2=>have h1:=HS.out.2.size;have h2:=hb7.size;omega
   intro v' w8 ho8 hg8
   have HG:=Lib.hid (grow_appR (v':=v') (w9:=w8) (x:=x - y - z) HS.out hb7 ho8 hg8)
   refine hK _ _ ?_
   clear hK K ho8 hg8
   intro HC18
   refine wpAnyR_lastL (by kernel_rfl) (by kernel_rfl) rfl (by kernel_rfl) (fun w9 hr9=>⟨bl_trans HG.out.2 hr9,?_⟩)
   intro K hK
   go_simp
   refine hK _ _ ?_
   clear hK K
   have HG9:=Lib.hid (grow_next HG.out hr9)
   clear hr9 HG hb7 hb5 nb HW hb4
   go_wp2_with fail
   go_roundw
   case rel=>exact ⟨k + 1,by omega,by go_num,by rw [HO.out];exact HG9⟩
   case measure=>simp [intOf];omega
  ·obtain rfl : k = xs.length:=by omega
   have ha : d.st.take xs.length = d.st:=List.take_of_length_le (by rw [KL.out];exact Nat.le_refl _)
   rw [ha] at HS
   obtain ⟨A3,k3,rfl,hO⟩:=own_form HS.out.1
   have hb:=HS.out.2
   have R3 : Hid (Row3 wr W1.heap.size A3 (some ⟨g2',0,none⟩) (some ⟨g1',0,none⟩) d.st d.bt d.pd):=Lib.hid (by
    rw [EPD.out,EBT.out]
    exact ⟨Row.of_own (hO.less X6.out.size),Row.of_own (O26.out.below hb),Row.of_own (O16.out.below hb),fun a b ea eb=>by
     obtain rfl:=Option.some.inj eb
     have h1:=(hO.lo_le a ea).1
     have h2:=(O26.out.lo_le _ rfl).2
     simp only at h2 ⊢;omega,fun a b ea eb=>by
     obtain rfl:=Option.some.inj eb
     have h1:=(hO.lo_le a ea).1
     have h2:=(O16.out.lo_le _ rfl).2
     simp only at h2 ⊢;omega,fun a b ea eb q=>AP.out b a eb ea q.symm⟩)
   have X8:=Lib.hid (bl_trans X6.out hb)
   clear HS hO hb ha O16 O26 AP X6 KT HR KA KB NT6 LYA LYB KF
   rw [← EPD.out,← EBT.out]
   go_wp2_with fail
   have NT8:=Lib.hid (NT.out.below X8.out)
   have M0 : Hid (Mk wr xs.length none none none wr):=Lib.hid (Mk.start wr xs.length)
   refine wp_region_W (last:=13) (k:=13) hmx rfl (fun HC0=>?_)
   refine wpAnyR_takeL (i:=0) (kw:=2) (v:=.slice A3 d.st.length k3) (fun _=>bl_refl _) (fun p q=>bl_trans p q) rfl rfl (by kernel_rfl) (by kernel_rfl) (by kernel_rfl) (by kernel_rfl) (fun _ _ _ h=>h) HC0 (Or.inl ⟨by kernel_rfl,fun W' hI=>?_⟩) (fun HC1=>?_)
   ·exact .inl (by go_simp)
   refine wpAnyR_takeL (i:=1) (kw:=2) (v:=.slice (some ⟨g2',0,none⟩) d.bt.length k2) (fun _=>bl_refl _) (fun p q=>bl_trans p q) rfl rfl (by kernel_rfl) (by kernel_rfl) (by kernel_rfl) (by kernel_rfl) (fun _ _ _ h=>h) HC1 (Or.inl ⟨by kernel_rfl,fun W' hI=>?_⟩) (fun HC2=>?_)
   ·exact .inl (by go_simp)
   refine wpAnyR_takeL (i:=2) (kw:=2) (v:=.slice (some ⟨g1',0,none⟩) d.pd.length k1) (fun _=>bl_refl _) (fun p q=>bl_trans p q) rfl rfl (by kernel_rfl) (by kernel_rfl) (by kernel_rfl) (by kernel_rfl) (fun _ _ _ h=>h) HC2 (Or.inl ⟨by kernel_rfl,fun W' hI=>?_⟩) (fun HC3=>?_)
   ·exact .inl (by go_simp)
   refine wpAnyR_takeL (i:=3) (kw:=3) (v:=.int .i64 xs.length) (fun _=>bl_refl _) (fun p q=>bl_trans p q) rfl rfl (by kernel_rfl) (by kernel_rfl) (by kernel_rfl) (by kernel_rfl) (fun _ _ _ h=>h) HC3 (Or.inl ⟨by kernel_rfl,fun W' hI=>?_⟩) (fun HC4=>?_)
   ·exact .inl (by go_simp)
   refine wpAnyR_takeL (i:=5) (kw:=3) (v:=.int .i64 xs.length) (fun _=>bl_refl _) (fun p q=>bl_trans p q) rfl rfl (by kernel_rfl) (by kernel_rfl) (by kernel_rfl) (by kernel_rfl) (fun _ _ _ h=>h) HC4 (Or.inl ⟨by kernel_rfl,fun W' hI=>?_⟩) (fun HC5=>?_)
   ·exact .inl (by go_simp)
   refine wpAnyR_takeL (i:=7) (kw:=3) (v:=.pointer (some ⟨w.heap.size,3,none⟩)) (fun _=>bl_refl _) (fun p q=>bl_trans p q) rfl rfl (by kernel_rfl) (by kernel_rfl) (by kernel_rfl) (by kernel_rfl) (fun _ _ _ h=>h) HC5 (Or.inl ⟨by kernel_rfl,fun W' hI=>?_⟩) (fun HC6=>?_)
   ·exact .inl (by go_simp)
   refine wpAnyR_takeL (i:=8) (kw:=2) (v:=.int .i64 g) (fun _=>bl_refl _) (fun p q=>bl_trans p q) rfl rfl (by kernel_rfl) (by kernel_rfl) (by kernel_rfl) (by kernel_rfl) (fun _ _ _ h=>h) HC6 (Or.inl ⟨by kernel_rfl,fun W' hI=>?_⟩) (fun HC7=>?_)
   ·have hv:=(NT8.out).below hI
    obtain ⟨z3,_⟩:=hv.cell 3 _ rfl
    exact .inl (by go_simp)
   refine wpAnyR_takeL (i:=9) (kw:=3) (v:=.pointer (some ⟨w.heap.size,5,none⟩)) (fun _=>bl_refl _) (fun p q=>bl_trans p q) rfl rfl (by kernel_rfl) (by kernel_rfl) (by kernel_rfl) (by kernel_rfl) (fun _ _ _ h=>h) HC7 (Or.inl ⟨by kernel_rfl,fun W' hI=>?_⟩) (fun HC8=>?_)
   ·exact .inl (by go_simp)
   refine wpAnyR_takeL (i:=10) (kw:=2) (v:=.int .i64 l) (fun _=>bl_refl _) (fun p q=>bl_trans p q) rfl rfl (by kernel_rfl) (by kernel_rfl) (by kernel_rfl) (by kernel_rfl) (fun _ _ _ h=>h) HC8 (Or.inl ⟨by kernel_rfl,fun W' hI=>?_⟩) (fun HC9=>?_)
   ·have hv:=(NT8.out).below hI
    obtain ⟨z5,_⟩:=hv.cell 5 _ rfl
    exact .inl (by go_simp)
   refine wpAnyR_threeT HC9 (i:=4) (j:=6) (l:=12) (by kernel_rfl) rfl rfl rfl (by kernel_rfl) (by kernel_rfl) (by kernel_rfl) (fun _ hr=>bl_drewT hr) (fun w1a hr K hK=>?o1) (fun w1a hr K hK=>?o2) (fun w1a hr K hK=>?o3)
   case' o1 =>
    have MB:=Lib.hid (M0.out.below (bl_drewT hr))
    clear hr M0
    try simp only [Act.put,List.setIfInBounds_toArray,List.set_cons_succ,List.set_cons_zero]
    refine wp_makeB (.tmp 44) (.tmp 44) rfl xs.length rfl rfl (by omega) ?_
    intro w1ab ho hb
    refine hK _ _ (fun HT1=>?_)
    clear hK K
    have M1:=Lib.hid (MB.out.mkP ho hb)
    clear ho hb MB
    generalize w1a.heap.size = gp at *
    refine wpAnyR_twoU HT1 (i:=6) (j:=12) (by kernel_rfl) rfl rfl (by kernel_rfl) (by kernel_rfl) (fun _ hr=>bl_trans M1.out.bx hr) (fun w2a hr K hK=>?o4) (fun w2a hr K hK=>?o5)
    case' o4 =>
     have MB:=Lib.hid (M1.out.below (hr))
     clear hr M1
     try simp only [Act.put,List.setIfInBounds_toArray,List.set_cons_succ,List.set_cons_zero]
     refine wp_makeB (.tmp 46) (.tmp 46) rfl xs.length rfl rfl (by omega) ?_
     intro w2ab ho hb
     refine hK _ _ (fun HT2=>?_)
     clear hK K
     have M2:=Lib.hid (MB.out.mkQ ho hb)
     clear ho hb MB
     generalize w2a.heap.size = gq at *
     refine wpAnyR_takeL (i:=11) (kw:=2) (v:=.agg #[.slice A3 d.st.length k3,.slice (some ⟨g2',0,none⟩) d.bt.length k2,.slice (some ⟨g1',0,none⟩) d.pd.length k1,.slice (some ⟨gp,0,none⟩) xs.length xs.length,.slice (some ⟨gq,0,none⟩) xs.length xs.length,.int .i64 0,.int .i64 g,.int .i64 0,.int .i64 l]) (fun _=>bl_refl _) (fun p q=>bl_trans p q) rfl rfl (by kernel_rfl) (by kernel_rfl) (by kernel_rfl) (by kernel_rfl) (fun _ _ _ h=>h) HT2 (Or.inl ⟨by kernel_rfl,fun W' hI=>?_⟩) (fun HT2v=>?_)
     ·exact .inl (by go_simp)
     refine wpAnyR_oneL HT2v (i:=12) (by kernel_rfl) rfl (by kernel_rfl) (fun w3a hr=>⟨bl_trans M2.out.bx hr,?_⟩)
     intro K hK
     have MB:=Lib.hid (M2.out.below (hr))
     clear hr M2
     go_simp
     refine hK _ _ (fun HT3v=>?_)
     clear hK K
     have M3:=Lib.hid MB.out.mkG
     clear MB
     obtain ⟨w3ab,eM⟩ : ∃ wM,wM = w3a.alloc (.cells ([.slice none 0 0,.slice none 0 0,.slice none 0 0,.slice none 0 0,.slice none 0 0,.int .i64 0,.int .i64 0,.int .i64 0,.int .i64 0] : List Value).toArray 27):=⟨_,rfl⟩
     rw [← eM] at M3
     simp only [List.toArray] at eM
     rw [← eM]
     clear eM
     generalize w3a.heap.size = gg at *
     refine wpAnyR_lastL (by kernel_rfl) (by kernel_rfl) rfl (by kernel_rfl) (fun wS hrS=>⟨bl_trans M3.out.bx hrS,?_⟩)
     intro K hK
     have MS:=Lib.hid (M3.out.below hrS)
     clear hrS M3
     try simp only [Act.put,List.setIfInBounds_toArray,List.set_cons_succ,List.set_cons_zero]
     refine wp_store_blk 27 9 (.tmp 8) (.tmp 52) rfl iB gg rfl [.slice A3 d.st.length k3,.slice (some ⟨g2',0,none⟩) d.bt.length k2,.slice (some ⟨g1',0,none⟩) d.pd.length k1,.slice (some ⟨gp,0,none⟩) xs.length xs.length,.slice (some ⟨gq,0,none⟩) xs.length xs.length,.int .i64 0,.int .i64 g,.int .i64 0,.int .i64 l] rfl rfl (by simp [Value.oneCell']) _ (MS.out.g gg rfl).2.2 rfl ?_
     intro w9 k9 g9
     have NC9 : Hid (NC w9 W1.heap.size gg ⟨A3,some ⟨g2',0,none⟩,some ⟨g1',0,none⟩,some ⟨gp,0,none⟩,some ⟨gq,0,none⟩,k3,k2,k1,xs.length,xs.length⟩ d):=Lib.hid (MS.out.done R3.out X8.out.size EFO.out EAC.out (by have h:=k9;unfold btL;rw [EFO.out,EAC.out,List.length_replicate,EUN.out.1,EUN.out.2.1,EUN.out.2.2.1,EUN.out.2.2.2];exact h) g9)
     have X9:=Lib.hid (below_grown1 (bl_trans X8.out MS.out.bx) g9 (Nat.le_trans X8.out.size (MS.out.g gg rfl).1))
     refine hK _ _ ?_
     clear hK K k9 g9 MS
    case' o5 =>
     have MB:=Lib.hid (M1.out.below (hr))
     clear hr M1
     go_simp
     refine hK _ _ (fun HT2=>?_)
     clear hK K
     have M2:=Lib.hid MB.out.mkG
     clear MB
     obtain ⟨w2ab,eM⟩ : ∃ wM,wM = w2a.alloc (.cells ([.slice none 0 0,.slice none 0 0,.slice none 0 0,.slice none 0 0,.slice none 0 0,.int .i64 0,.int .i64 0,.int .i64 0,.int .i64 0] : List Value).toArray 27):=⟨_,rfl⟩
     rw [← eM] at M2
     simp only [List.toArray] at eM
     rw [← eM]
     clear eM
     generalize w2a.heap.size = gg at *
     refine wpAnyR_oneL HT2 (i:=6) (by kernel_rfl) rfl (by kernel_rfl) (fun w3a hr=>⟨bl_trans M2.out.bx hr,?_⟩)
     intro K hK
     have MB:=Lib.hid (M2.out.below (hr))
     clear hr M2
     try simp only [Act.put,List.setIfInBounds_toArray,List.set_cons_succ,List.set_cons_zero]
     refine wp_makeB (.tmp 46) (.tmp 46) rfl xs.length rfl rfl (by omega) ?_
     intro w3ab ho hb
     refine hK _ _ (fun HT3=>?_)
     clear hK K
     have M3:=Lib.hid (MB.out.mkQ ho hb)
     clear ho hb MB
     generalize w3a.heap.size = gq at *
     refine wpAnyR_takeL (i:=11) (kw:=2) (v:=.agg #[.slice A3 d.st.length k3,.slice (some ⟨g2',0,none⟩) d.bt.length k2,.slice (some ⟨g1',0,none⟩) d.pd.length k1,.slice (some ⟨gp,0,none⟩) xs.length xs.length,.slice (some ⟨gq,0,none⟩) xs.length xs.length,.int .i64 0,.int .i64 g,.int .i64 0,.int .i64 l]) (fun _=>bl_refl _) (fun p q=>bl_trans p q) rfl rfl (by kernel_rfl) (by kernel_rfl) (by kernel_rfl) (by kernel_rfl) (fun _ _ _ h=>h) HT3 (Or.inl ⟨by kernel_rfl,fun W' hI=>?_⟩) (fun HT3v=>?_)
     ·exact .inl (by go_simp)
     refine wpAnyR_lastL (by kernel_rfl) (by kernel_rfl) rfl (by kernel_rfl) (fun wS hrS=>⟨bl_trans M3.out.bx hrS,?_⟩)
     intro K hK
     have MS:=Lib.hid (M3.out.below hrS)
     clear hrS M3
     try simp only [Act.put,List.setIfInBounds_toArray,List.set_cons_succ,List.set_cons_zero]
     refine wp_store_blk 27 9 (.tmp 8) (.tmp 52) rfl iB gg rfl [.slice A3 d.st.length k3,.slice (some ⟨g2',0,none⟩) d.bt.length k2,.slice (some ⟨g1',0,none⟩) d.pd.length k1,.slice (some ⟨gp,0,none⟩) xs.length xs.length,.slice (some ⟨gq,0,none⟩) xs.length xs.length,.int .i64 0,.int .i64 g,.int .i64 0,.int .i64 l] rfl rfl (by simp [Value.oneCell']) _ (MS.out.g gg rfl).2.2 rfl ?_
     intro w9 k9 g9
     have NC9 : Hid (NC w9 W1.heap.size gg ⟨A3,some ⟨g2',0,none⟩,some ⟨g1',0,none⟩,some ⟨gp,0,none⟩,some ⟨gq,0,none⟩,k3,k2,k1,xs.length,xs.length⟩ d):=Lib.hid (MS.out.done R3.out X8.out.size EFO.out EAC.out (by have h:=k9;unfold btL;rw [EFO.out,EAC.out,List.length_replicate,EUN.out.1,EUN.out.2.1,EUN.out.2.2.1,EUN.out.2.2.2];exact h) g9)
     have X9:=Lib.hid (below_grown1 (bl_trans X8.out MS.out.bx) g9 (Nat.le_trans X8.out.size (MS.out.g gg rfl).1))
     refine hK _ _ ?_
     clear hK K k9 g9 MS
   case' o2 =>
    have MB:=Lib.hid (M0.out.below (bl_drewT hr))
    clear hr M0
    try simp only [Act.put,List.setIfInBounds_toArray,List.set_cons_succ,List.set_cons_zero]
    refine wp_makeB (.tmp 46) (.tmp 46) rfl xs.length rfl rfl (by omega) ?_
    intro w1ab ho hb
    refine hK _ _ (fun HT1=>?_)
    clear hK K
    have M1:=Lib.hid (MB.out.mkQ ho hb)
    clear ho hb MB
    generalize w1a.heap.size = gq at *
    refine wpAnyR_twoU HT1 (i:=4) (j:=12) (by kernel_rfl) rfl rfl (by kernel_rfl) (by kernel_rfl) (fun _ hr=>bl_trans M1.out.bx hr) (fun w2a hr K hK=>?o8) (fun w2a hr K hK=>?o9)
    case' o8 =>
     have MB:=Lib.hid (M1.out.below (hr))
     clear hr M1
     try simp only [Act.put,List.setIfInBounds_toArray,List.set_cons_succ,List.set_cons_zero]
     refine wp_makeB (.tmp 44) (.tmp 44) rfl xs.length rfl rfl (by omega) ?_
     intro w2ab ho hb
     refine hK _ _ (fun HT2=>?_)
     clear hK K
     have M2:=Lib.hid (MB.out.mkP ho hb)
     clear ho hb MB
     generalize w2a.heap.size = gp at *
     refine wpAnyR_takeL (i:=11) (kw:=2) (v:=.agg #[.slice A3 d.st.length k3,.slice (some ⟨g2',0,none⟩) d.bt.length k2,.slice (some ⟨g1',0,none⟩) d.pd.length k1,.slice (some ⟨gp,0,none⟩) xs.length xs.length,.slice (some ⟨gq,0,none⟩) xs.length xs.length,.int .i64 0,.int .i64 g,.int .i64 0,.int .i64 l]) (fun _=>bl_refl _) (fun p q=>bl_trans p q) rfl rfl (by kernel_rfl) (by kernel_rfl) (by kernel_rfl) (by kernel_rfl) (fun _ _ _ h=>h) HT2 (Or.inl ⟨by kernel_rfl,fun W' hI=>?_⟩) (fun HT2v=>?_)
     ·exact .inl (by go_simp)
     refine wpAnyR_oneL HT2v (i:=12) (by kernel_rfl) rfl (by kernel_rfl) (fun w3a hr=>⟨bl_trans M2.out.bx hr,?_⟩)
     intro K hK
     have MB:=Lib.hid (M2.out.below (hr))
     clear hr M2
     go_simp
     refine hK _ _ (fun HT3v=>?_)
     clear hK K
     have M3:=Lib.hid MB.out.mkG
     clear MB
     obtain ⟨w3ab,eM⟩ : ∃ wM,wM = w3a.alloc (.cells ([.slice none 0 0,.slice none 0 0,.slice none 0 0,.slice none 0 0,.slice none 0 0,.int .i64 0,.int .i64 0,.int .i64 0,.int .i64 0] : List Value).toArray 27):=⟨_,rfl⟩
     rw [← eM] at M3
     simp only [List.toArray] at eM
     rw [← eM]
     clear eM
     generalize w3a.heap.size = gg at *
     refine wpAnyR_lastL (by kernel_rfl) (by kernel_rfl) rfl (by kernel_rfl) (fun wS hrS=>⟨bl_trans M3.out.bx hrS,?_⟩)
     intro K hK
     have MS:=Lib.hid (M3.out.below hrS)
     clear hrS M3
     try simp only [Act.put,List.setIfInBounds_toArray,List.set_cons_succ,List.set_cons_zero]
     refine wp_store_blk 27 9 (.tmp 8) (.tmp 52) rfl iB gg rfl [.slice A3 d.st.length k3,.slice (some ⟨g2',0,none⟩) d.bt.length k2,.slice (some ⟨g1',0,none⟩) d.pd.length k1,.slice (some ⟨gp,0,none⟩) xs.length xs.length,.slice (some ⟨gq,0,none⟩) xs.length xs.length,.int .i64 0,.int .i64 g,.int .i64 0,.int .i64 l] rfl rfl (by simp [Value.oneCell']) _ (MS.out.g gg rfl).2.2 rfl ?_
     intro w9 k9 g9
     have NC9 : Hid (NC w9 W1.heap.size gg ⟨A3,some ⟨g2',0,none⟩,some ⟨g1',0,none⟩,some ⟨gp,0,none⟩,some ⟨gq,0,none⟩,k3,k2,k1,xs.length,xs.length⟩ d):=Lib.hid (MS.out.done R3.out X8.out.size EFO.out EAC.out (by have h:=k9;unfold btL;rw [EFO.out,EAC.out,List.length_replicate,EUN.out.1,EUN.out.2.1,EUN.out.2.2.1,EUN.out.2.2.2];exact h) g9)
     have X9:=Lib.hid (below_grown1 (bl_trans X8.out MS.out.bx) g9 (Nat.le_trans X8.out.size (MS.out.g gg rfl).1))
     refine hK _ _ ?_
     clear hK K k9 g9 MS
    case' o9 =>
     have MB:=Lib.hid (M1.out.below (hr))
     clear hr M1
     go_simp
     refine hK _ _ (fun HT2=>?_)
     clear hK K
     have M2:=Lib.hid MB.out.mkG
     clear MB
     obtain ⟨w2ab,eM⟩ : ∃ wM,wM = w2a.alloc (.cells ([.slice none 0 0,.slice none 0 0,.slice none 0 0,.slice none 0 0,.slice none 0 0,.int .i64 0,.int .i64 0,.int .i64 0,.int .i64 0] : List Value).toArray 27):=⟨_,rfl⟩
     rw [← eM] at M2
     simp only [List.toArray] at eM
     rw [← eM]
     clear eM
     generalize w2a.heap.size = gg at *
     refine wpAnyR_oneL HT2 (i:=4) (by kernel_rfl) rfl (by kernel_rfl) (fun w3a hr=>⟨bl_trans M2.out.bx hr,?_⟩)
     intro K hK
     have MB:=Lib.hid (M2.out.below (hr))
     clear hr M2
     try simp only [Act.put,List.setIfInBounds_toArray,List.set_cons_succ,List.set_cons_zero]
     refine wp_makeB (.tmp 44) (.tmp 44) rfl xs.length rfl rfl (by omega) ?_
     intro w3ab ho hb
     refine hK _ _ (fun HT3=>?_)
     clear hK K
     have M3:=Lib.hid (MB.out.mkP ho hb)
     clear ho hb MB
     generalize w3a.heap.size = gp at *
     refine wpAnyR_takeL (i:=11) (kw:=2) (v:=.agg #[.slice A3 d.st.length k3,.slice (some ⟨g2',0,none⟩) d.bt.length k2,.slice (some ⟨g1',0,none⟩) d.pd.length k1,.slice (some ⟨gp,0,none⟩) xs.length xs.length,.slice (some ⟨gq,0,none⟩) xs.length xs.length,.int .i64 0,.int .i64 g,.int .i64 0,.int .i64 l]) (fun _=>bl_refl _) (fun p q=>bl_trans p q) rfl rfl (by kernel_rfl) (by kernel_rfl) (by kernel_rfl) (by kernel_rfl) (fun _ _ _ h=>h) HT3 (Or.inl ⟨by kernel_rfl,fun W' hI=>?_⟩) (fun HT3v=>?_)
     ·exact .inl (by go_simp)
     refine wpAnyR_lastL (by kernel_rfl) (by kernel_rfl) rfl (by kernel_rfl) (fun wS hrS=>⟨bl_trans M3.out.bx hrS,?_⟩)
     intro K hK
     have MS:=Lib.hid (M3.out.below hrS)
     clear hrS M3
     try simp only [Act.put,List.setIfInBounds_toArray,List.set_cons_succ,List.set_cons_zero]
     refine wp_store_blk 27 9 (.tmp 8) (.tmp 52) rfl iB gg rfl [.slice A3 d.st.length k3,.slice (some ⟨g2',0,none⟩) d.bt.length k2,.slice (some ⟨g1',0,none⟩) d.pd.length k1,.slice (some ⟨gp,0,none⟩) xs.length xs.length,.slice (some ⟨gq,0,none⟩) xs.length xs.length,.int .i64 0,.int .i64 g,.int .i64 0,.int .i64 l] rfl rfl (by simp [Value.oneCell']) _ (MS.out.g gg rfl).2.2 rfl ?_
     intro w9 k9 g9
     have NC9 : Hid (NC w9 W1.heap.size gg ⟨A3,some ⟨g2',0,none⟩,some ⟨g1',0,none⟩,some ⟨gp,0,none⟩,some ⟨gq,0,none⟩,k3,k2,k1,xs.length,xs.length⟩ d):=Lib.hid (MS.out.done R3.out X8.out.size EFO.out EAC.out (by have h:=k9;unfold btL;rw [EFO.out,EAC.out,List.length_replicate,EUN.out.1,EUN.out.2.1,EUN.out.2.2.1,EUN.out.2.2.2];exact h) g9)
     have X9:=Lib.hid (below_grown1 (bl_trans X8.out MS.out.bx) g9 (Nat.le_trans X8.out.size (MS.out.g gg rfl).1))
     refine hK _ _ ?_
     clear hK K k9 g9 MS
   case' o3 =>
    have MB:=Lib.hid (M0.out.below (bl_drewT hr))
    clear hr M0
    go_simp
    refine hK _ _ (fun HT1=>?_)
    clear hK K
    have M1:=Lib.hid MB.out.mkG
    clear MB
    obtain ⟨w1ab,eM⟩ : ∃ wM,wM = w1a.alloc (.cells ([.slice none 0 0,.slice none 0 0,.slice none 0 0,.slice none 0 0,.slice none 0 0,.int .i64 0,.int .i64 0,.int .i64 0,.int .i64 0] : List Value).toArray 27):=⟨_,rfl⟩
    rw [← eM] at M1
    simp only [List.toArray] at eM
    rw [← eM]
    clear eM
    generalize w1a.heap.size = gg at *
    refine wpAnyR_twoU HT1 (i:=4) (j:=6) (by kernel_rfl) rfl rfl (by kernel_rfl) (by kernel_rfl) (fun _ hr=>bl_trans M1.out.bx hr) (fun w2a hr K hK=>?o12) (fun w2a hr K hK=>?o13)
    case' o12 =>
     have MB:=Lib.hid (M1.out.below (hr))
     clear hr M1
     try simp only [Act.put,List.setIfInBounds_toArray,List.set_cons_succ,List.set_cons_zero]
     refine wp_makeB (.tmp 44) (.tmp 44) rfl xs.length rfl rfl (by omega) ?_
     intro w2ab ho hb
     refine hK _ _ (fun HT2=>?_)
     clear hK K
     have M2:=Lib.hid (MB.out.mkP ho hb)
     clear ho hb MB
     generalize w2a.heap.size = gp at *
     refine wpAnyR_oneL HT2 (i:=6) (by kernel_rfl) rfl (by kernel_rfl) (fun w3a hr=>⟨bl_trans M2.out.bx hr,?_⟩)
     intro K hK
     have MB:=Lib.hid (M2.out.below (hr))
     clear hr M2
     try simp only [Act.put,List.setIfInBounds_toArray,List.set_cons_succ,List.set_cons_zero]
     refine wp_makeB (.tmp 46) (.tmp 46) rfl xs.length rfl rfl (by omega) ?_
     intro w3ab ho hb
     refine hK _ _ (fun HT3=>?_)
     clear hK K
     have M3:=Lib.hid (MB.out.mkQ ho hb)
     clear ho hb MB
     generalize w3a.heap.size = gq at *
     refine wpAnyR_takeL (i:=11) (kw:=2) (v:=.agg #[.slice A3 d.st.length k3,.slice (some ⟨g2',0,none⟩) d.bt.length k2,.slice (some ⟨g1',0,none⟩) d.pd.length k1,.slice (some ⟨gp,0,none⟩) xs.length xs.length,.slice (some ⟨gq,0,none⟩) xs.length xs.length,.int .i64 0,.int .i64 g,.int .i64 0,.int .i64 l]) (fun _=>bl_refl _) (fun p q=>bl_trans p q) rfl rfl (by kernel_rfl) (by kernel_rfl) (by kernel_rfl) (by kernel_rfl) (fun _ _ _ h=>h) HT3 (Or.inl ⟨by kernel_rfl,fun W' hI=>?_⟩) (fun HT3v=>?_)
     ·exact .inl (by go_simp)
     refine wpAnyR_lastL (by kernel_rfl) (by kernel_rfl) rfl (by kernel_rfl) (fun wS hrS=>⟨bl_trans M3.out.bx hrS,?_⟩)
     intro K hK
     have MS:=Lib.hid (M3.out.below hrS)
     clear hrS M3
     try simp only [Act.put,List.setIfInBounds_toArray,List.set_cons_succ,List.set_cons_zero]
     refine wp_store_blk 27 9 (.tmp 8) (.tmp 52) rfl iB gg rfl [.slice A3 d.st.length k3,.slice (some ⟨g2',0,none⟩) d.bt.length k2,.slice (some ⟨g1',0,none⟩) d.pd.length k1,.slice (some ⟨gp,0,none⟩) xs.length xs.length,.slice (some ⟨gq,0,none⟩) xs.length xs.length,.int .i64 0,.int .i64 g,.int .i64 0,.int .i64 l] rfl rfl (by simp [Value.oneCell']) _ (MS.out.g gg rfl).2.2 rfl ?_
     intro w9 k9 g9
     have NC9 : Hid (NC w9 W1.heap.size gg ⟨A3,some ⟨g2',0,none⟩,some ⟨g1',0,none⟩,some ⟨gp,0,none⟩,some ⟨gq,0,none⟩,k3,k2,k1,xs.length,xs.length⟩ d):=Lib.hid (MS.out.done R3.out X8.out.size EFO.out EAC.out (by have h:=k9;unfold btL;rw [EFO.out,EAC.out,List.length_replicate,EUN.out.1,EUN.out.2.1,EUN.out.2.2.1,EUN.out.2.2.2];exact h) g9)
     have X9:=Lib.hid (below_grown1 (bl_trans X8.out MS.out.bx) g9 (Nat.le_trans X8.out.size (MS.out.g gg rfl).1))
     refine hK _ _ ?_
     clear hK K k9 g9 MS
    case' o13 =>
     have MB:=Lib.hid (M1.out.below (hr))
     clear hr M1
     try simp only [Act.put,List.setIfInBounds_toArray,List.set_cons_succ,List.set_cons_zero]
     refine wp_makeB (.tmp 46) (.tmp 46) rfl xs.length rfl rfl (by omega) ?_
     intro w2ab ho hb
     refine hK _ _ (fun HT2=>?_)
     clear hK K
     have M2:=Lib.hid (MB.out.mkQ ho hb)
     clear ho hb MB
     generalize w2a.heap.size = gq at *
     refine wpAnyR_oneL HT2 (i:=4) (by kernel_rfl) rfl (by kernel_rfl) (fun w3a hr=>⟨bl_trans M2.out.bx hr,?_⟩)
     intro K hK
     have MB:=Lib.hid (M2.out.below (hr))
     clear hr M2
     try simp only [Act.put,List.setIfInBounds_toArray,List.set_cons_succ,List.set_cons_zero]
     refine wp_makeB (.tmp 44) (.tmp 44) rfl xs.length rfl rfl (by omega) ?_
     intro w3ab ho hb
     refine hK _ _ (fun HT3=>?_)
     clear hK K
     have M3:=Lib.hid (MB.out.mkP ho hb)
     clear ho hb MB
     generalize w3a.heap.size = gp at *
     refine wpAnyR_takeL (i:=11) (kw:=2) (v:=.agg #[.slice A3 d.st.length k3,.slice (some ⟨g2',0,none⟩) d.bt.length k2,.slice (some ⟨g1',0,none⟩) d.pd.length k1,.slice (some ⟨gp,0,none⟩) xs.length xs.length,.slice (some ⟨gq,0,none⟩) xs.length xs.length,.int .i64 0,.int .i64 g,.int .i64 0,.int .i64 l]) (fun _=>bl_refl _) (fun p q=>bl_trans p q) rfl rfl (by kernel_rfl) (by kernel_rfl) (by kernel_rfl) (by kernel_rfl) (fun _ _ _ h=>h) HT3 (Or.inl ⟨by kernel_rfl,fun W' hI=>?_⟩) (fun HT3v=>?_)
     ·exact .inl (by go_simp)
     refine wpAnyR_lastL (by kernel_rfl) (by kernel_rfl) rfl (by kernel_rfl) (fun wS hrS=>⟨bl_trans M3.out.bx hrS,?_⟩)
     intro K hK
     have MS:=Lib.hid (M3.out.below hrS)
     clear hrS M3
     try simp only [Act.put,List.setIfInBounds_toArray,List.set_cons_succ,List.set_cons_zero]
     refine wp_store_blk 27 9 (.tmp 8) (.tmp 52) rfl iB gg rfl [.slice A3 d.st.length k3,.slice (some ⟨g2',0,none⟩) d.bt.length k2,.slice (some ⟨g1',0,none⟩) d.pd.length k1,.slice (some ⟨gp,0,none⟩) xs.length xs.length,.slice (some ⟨gq,0,none⟩) xs.length xs.length,.int .i64 0,.int .i64 g,.int .i64 0,.int .i64 l] rfl rfl (by simp [Value.oneCell']) _ (MS.out.g gg rfl).2.2 rfl ?_
     intro w9 k9 g9
     have NC9 : Hid (NC w9 W1.heap.size gg ⟨A3,some ⟨g2',0,none⟩,some ⟨g1',0,none⟩,some ⟨gp,0,none⟩,some ⟨gq,0,none⟩,k3,k2,k1,xs.length,xs.length⟩ d):=Lib.hid (MS.out.done R3.out X8.out.size EFO.out EAC.out (by have h:=k9;unfold btL;rw [EFO.out,EAC.out,List.length_replicate,EUN.out.1,EUN.out.2.1,EUN.out.2.2.1,EUN.out.2.2.2];exact h) g9)
     have X9:=Lib.hid (below_grown1 (bl_trans X8.out MS.out.bx) g9 (Nat.le_trans X8.out.size (MS.out.g gg rfl).1))
     refine hK _ _ ?_
     clear hK K k9 g9 MS
   all_goals
    clear R3 X8 NT8 EFO EAC EUN
    have NT9:=Lib.hid (NT.out.below X9.out)
    obtain ⟨t0,-⟩:=NT9.out.cell 0 _ rfl
    obtain ⟨t1,-⟩:=NT9.out.cell 1 _ rfl
    obtain ⟨t2,-⟩:=NT9.out.cell 2 _ rfl
    obtain ⟨t3,-⟩:=NT9.out.cell 3 _ rfl
    obtain ⟨t4,-⟩:=NT9.out.cell 4 _ rfl
    obtain ⟨t5,-⟩:=NT9.out.cell 5 _ rfl
    go_wp2_with (first
     | (go_at_call 159;refine (KFi.out _).mono ?_;rintro e w10 ⟨rfl,hb⟩;have NC10:=Lib.hid (NC9.out.below hb);have X10:=Lib.hid (bl_trans X9.out hb);clear hb)
     | ((with_reducible refine wpList_store_at 2 rfl (.tmp 56) (.tmp 55) rfl i1 gg 5 rfl (.int .i64 f) rfl rfl _ _ NC10.out.blk ?_ ?_);(exact (by simp [btL]));intro w11 k5 g5;have NC11:=Lib.hid (NC10.out.setTu f k5 g5).1;have X11:=Lib.hid (below_grown1 X10.out g5 NC10.out.lg);clear k5 g5))
    clear t0 t1 t2 t3 t4 t5 NT9 NC9 X9 NC10 X10
    have fo0:=fb0.out
    have fo1:=fb1.out
    refine wp_region_W (last:=9) (k:=9) hmx rfl (fun HC0=>?_)
    refine wpAnyR_takeL (i:=0) (kw:=2) (v:=.agg #[.slice A3 d.st.length k3,.slice (some ⟨g2',0,none⟩) d.bt.length k2,.slice (some ⟨g1',0,none⟩) d.pd.length k1,.slice (some ⟨gp,0,none⟩) d.fo.length xs.length,.slice (some ⟨gq,0,none⟩) d.ac.length xs.length,.int .i64 f,.int .i64 d.un,.int .i64 d.ra,.int .i64 d.li]) (fun _=>bl_refl _) (fun p q=>bl_trans p q) rfl rfl (by kernel_rfl) (by kernel_rfl) (by kernel_rfl) (by kernel_rfl) (fun _ _ _ h=>h) HC0 (Or.inl ⟨by kernel_rfl,fun W' hI=>?_⟩) (fun HC1=>?_)
    ·have hv:=(NC11.out.blk).below hI
     obtain ⟨z0,_⟩:=hv.cell 0 _ rfl
     obtain ⟨z1,_⟩:=hv.cell 1 _ rfl
     obtain ⟨z2,_⟩:=hv.cell 2 _ rfl
     obtain ⟨z3,_⟩:=hv.cell 3 _ rfl
     obtain ⟨z4,_⟩:=hv.cell 4 _ rfl
     obtain ⟨z5,_⟩:=hv.cell 5 _ rfl
     obtain ⟨z6,_⟩:=hv.cell 6 _ rfl
     obtain ⟨z7,_⟩:=hv.cell 7 _ rfl
     obtain ⟨z8,_⟩:=hv.cell 8 _ rfl
     exact .inl (by go_simp)
    refine wpAnyR_takeL (i:=1) (kw:=5) (v:=.int .i64 f) (fun _=>bl_refl _) (fun p q=>bl_trans p q) rfl rfl (by kernel_rfl) (by kernel_rfl) (by kernel_rfl) (by kernel_rfl) (fun _ _ _ h=>h) HC1 (Or.inl ⟨by kernel_rfl,fun W' hI=>?_⟩) (fun HC2=>?_)
    ·exact .inl (by go_simp)
    refine wpAnyR_takeL (i:=2) (kw:=5) (v:=.int .i64 xs.length) (fun _=>bl_refl _) (fun p q=>bl_trans p q) rfl rfl (by kernel_rfl) (by kernel_rfl) (by kernel_rfl) (by kernel_rfl) (fun _ _ _ h=>h) HC2 (Or.inl ⟨by kernel_rfl,fun W' hI=>?_⟩) (fun HC3=>?_)
    ·exact .inl (by go_simp)
    refine wpAnyR_takeL (i:=3) (kw:=4) (v:=.int .i64 (f + xs.length)) (fun _=>bl_refl _) (fun p q=>bl_trans p q) rfl rfl (by kernel_rfl) (by kernel_rfl) (by kernel_rfl) (by kernel_rfl) (fun _ _ _ h=>h) HC3 (Or.inl ⟨by kernel_rfl,fun W' hI=>?_⟩) (fun HC4=>?_)
    ·exact .inl (by go_simp;first | done | exact IntWalk.i64_in _ (by omega))
    refine wpAnyR_takeL (i:=4) (kw:=3) (v:=.int .i64 ((f + xs.length) - 1)) (fun _=>bl_refl _) (fun p q=>bl_trans p q) rfl rfl (by kernel_rfl) (by kernel_rfl) (by kernel_rfl) (by kernel_rfl) (fun _ _ _ h=>h) HC4 (Or.inl ⟨by kernel_rfl,fun W' hI=>?_⟩) (fun HC5=>?_)
    ·exact .inl (by go_simp;first | done | exact IntWalk.i64_in _ (by omega))
    refine wpAnyR_takeL (i:=5) (kw:=3) (v:=.int .i64 xs.length) (fun _=>bl_refl _) (fun p q=>bl_trans p q) rfl rfl (by kernel_rfl) (by kernel_rfl) (by kernel_rfl) (by kernel_rfl) (fun _ _ _ h=>h) HC5 (Or.inl ⟨by kernel_rfl,fun W' hI=>?_⟩) (fun HC6=>?_)
    ·exact .inl (by go_simp)
    refine wpAnyR_takeL (i:=6) (kw:=2) (v:=.int .i64 r) (fun _=>bl_refl _) (fun p q=>bl_trans p q) rfl rfl (by kernel_rfl) (by kernel_rfl) (by kernel_rfl) (by kernel_rfl) (fun _ _ _ h=>h) HC6 (Or.inl ⟨by kernel_rfl,fun W' hI=>?_⟩) (fun HC7=>?_)
    ·exact .inl (by go_simp;first | done | omega | (intro e;rw [e] at h2;simp at h2))
    refine wpAnyR_takeL (i:=7) (kw:=1) (v:=.int .i64 nx) (fun _=>bl_refl _) (fun p q=>bl_trans p q) rfl rfl (by kernel_rfl) (by kernel_rfl) (by kernel_rfl) (by kernel_rfl) (fun _ _ _ h=>h) HC7 (Or.inl ⟨by kernel_rfl,fun W' hI=>?_⟩) (fun HC8=>?_)
    ·exact .inr ⟨152,#[.agg #[.slice A3 d.st.length k3,.slice (some ⟨g2',0,none⟩) d.bt.length k2,.slice (some ⟨g1',0,none⟩) d.pd.length k1,.slice (some ⟨gp,0,none⟩) d.fo.length xs.length,.slice (some ⟨gq,0,none⟩) d.ac.length xs.length,.int .i64 f,.int .i64 d.un,.int .i64 d.ra,.int .i64 d.li],.int .i64 r],by go_simp,KN.out ⟨A3,some ⟨g2',0,none⟩,some ⟨g1',0,none⟩,some ⟨gp,0,none⟩,some ⟨gq,0,none⟩,k3,k2,k1,xs.length,xs.length⟩ W' (NC11.out.at_.rd.below hI)⟩
    refine wpAnyR_takeL (i:=8) (kw:=1) (v:=.pointer (some ⟨gg,5,none⟩)) (fun _=>bl_refl _) (fun p q=>bl_trans p q) rfl rfl (by kernel_rfl) (by kernel_rfl) (by kernel_rfl) (by kernel_rfl) (fun _ _ _ h=>h) HC8 (Or.inl ⟨by kernel_rfl,fun W' hI=>?_⟩) (fun HC9=>?_)
    ·exact .inl (by go_simp)
    refine wpAnyR_lastL (by kernel_rfl) (by kernel_rfl) rfl (by kernel_rfl) (fun wR hrR=>⟨bl_drewT hrR,?_⟩)
    intro K hK
    have BR:=Lib.hid (bl_drewT hrR)
    clear hrR
    have NCR:=Lib.hid (NC11.out.below BR.out)
    have XR:=Lib.hid (bl_trans X11.out BR.out)
    try simp only [Act.put,List.setIfInBounds_toArray,List.set_cons_succ,List.set_cons_zero]
    refine wp_store_at 2 (.tmp 65) (.tmp 64) rfl i1 gg 5 rfl (.int .i64 nx) rfl rfl 27 _ NCR.out.blk (by simp [btL]) ?_
    intro w13 k5 g5
    have NC13:=Lib.hid (NCR.out.setTu nx k5 g5).1
    have X13:=Lib.hid (below_grown1 XR.out g5 NCR.out.lg)
    have NZ13:=Lib.hid (NZ.out.below X13.out)
    refine hK _ _ ?_
    clear hK K k5 g5 NCR XR BR NC11 X11
    have NCb:=NC13.out.blk
    obtain ⟨y0,-⟩:=NCb.cell 0 _ rfl
    obtain ⟨y1,-⟩:=NCb.cell 1 _ rfl
    obtain ⟨y2,-⟩:=NCb.cell 2 _ rfl
    obtain ⟨y3,-⟩:=NCb.cell 3 _ rfl
    obtain ⟨y4,-⟩:=NCb.cell 4 _ rfl
    obtain ⟨y5,-⟩:=NCb.cell 5 _ rfl
    obtain ⟨y6,-⟩:=NCb.cell 6 _ rfl
    obtain ⟨y7,-⟩:=NCb.cell 7 _ rfl
    obtain ⟨y8,-⟩:=NCb.cell 8 _ rfl
    clear NCb
    go_wp2_with (first
     | ((with_reducible refine at_st 27 (.tmp 2) (.tmp 66) rfl ?_);(refine wpList_store_blk 27 9 rfl (.tmp 2) (.tmp 66) rfl iB (w.heap.size + 1) rfl [.slice A3 d.st.length k3,.slice (some ⟨g2',0,none⟩) d.bt.length k2,.slice (some ⟨g1',0,none⟩) d.pd.length k1,.slice (some ⟨gp,0,none⟩) d.fo.length xs.length,.slice (some ⟨gq,0,none⟩) d.ac.length xs.length,.int .i64 nx,.int .i64 d.un,.int .i64 d.ra,.int .i64 d.li] rfl rfl (by simp [Value.oneCell']) _ NZ13.out rfl ?_);intro w14 k9 g9))
    obtain ⟨z0,_⟩:=k9.cell 0 _ rfl
    obtain ⟨z1,_⟩:=k9.cell 1 _ rfl
    obtain ⟨z2,_⟩:=k9.cell 2 _ rfl
    obtain ⟨z3,_⟩:=k9.cell 3 _ rfl
    obtain ⟨z4,_⟩:=k9.cell 4 _ rfl
    obtain ⟨z5,_⟩:=k9.cell 5 _ rfl
    obtain ⟨z6,_⟩:=k9.cell 6 _ rfl
    obtain ⟨z7,_⟩:=k9.cell 7 _ rfl
    obtain ⟨z8,_⟩:=k9.cell 8 _ rfl
    exact bodyPost_ret (v:=.agg #[.slice A3 d.st.length k3,.slice (some ⟨g2',0,none⟩) d.bt.length k2,.slice (some ⟨g1',0,none⟩) d.pd.length k1,.slice (some ⟨gp,0,none⟩) d.fo.length xs.length,.slice (some ⟨gq,0,none⟩) d.ac.length xs.length,.int .i64 nx,.int .i64 d.un,.int .i64 d.ra,.int .i64 d.li]) (by simp [results,Try.results114,go_sem,z0,z1,z2,z3,z4,z5,z6,z7,z8]) rfl ⟨⟨A3,some ⟨g2',0,none⟩,some ⟨g1',0,none⟩,some ⟨gp,0,none⟩,some ⟨gq,0,none⟩,k3,k2,k1,xs.length,xs.length⟩,rfl,(NC13.out.rows.grownB' g9 (by omega)).less (by omega),below_grown1 (bl_trans B.out X13.out) g9 (by omega)⟩
end Go.Proofs.Ytnllndcajdofjaa
