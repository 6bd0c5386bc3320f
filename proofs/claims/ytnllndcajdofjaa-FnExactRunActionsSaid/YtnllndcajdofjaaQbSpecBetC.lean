/-
 The model: the choices.
-/
import Derived.Test.YtnllndcajdofjaaQbSpecBetF
namespace Go.Proofs.Ytnllndcajdofjaa
open Go.RowKit
set_option linter.unusedVariables false

/-- While choices are made: the round's box, the result's, the choices'. -/
structure Chs (w0 : World) (g6 : Nat) (L : At5) (b : Bt) (vs : List Value) (W : World) : Prop where
 box : Blk W w0.heap.size 27 (btL L b)
 rd0 : Rd5 w0 L b
 res : Blk W (w0.heap.size + 1) 30 [.bool false,.int .i64 0,.int .i64 0,.int .i64 0]
 own : Blk W g6 30 vs
 lt : w0.heap.size + 1 < g6
 all : Below w0.heap.size w0 W
theorem Chs.below {w0 W W' : World} {g6 : Nat} {L : At5} {b : Bt} {vs : List Value} (h : Chs w0 g6 L b vs W) (hb : Below W.heap.size W W') : Chs w0 g6 L b vs W':=⟨h.box.below hb,h.rd0,h.res.below hb,h.own.below hb,h.lt,bl_trans h.all hb⟩
theorem Chs.rd {w0 W : World} {g6 : Nat} {L : At5} {b : Bt} {vs : List Value} (h : Chs w0 g6 L b vs W) : Rd5 W L b:=h.rd0.below h.all
theorem Chs.set {w0 W W' : World} {g6 : Nat} {L : At5} {b : Bt} {vs vs' : List Value} (h : Chs w0 g6 L b vs W) (hB : Blk W' g6 30 vs') (hg : W.grownBy W' (some g6)) : Chs w0 g6 L b vs' W':=by
 have:=h.lt
 exact ⟨h.box.grown hg (fun e=>by have:=Option.some.inj e;omega),h.rd0,h.res.grown hg (fun e=>by have:=Option.some.inj e;omega),hB,h.lt,below_grown1 h.all hg (by omega)⟩
/-- The operation at hand is this store. -/
theorem at_st {P : Program} {ops : Array Oper} {Q : Exit → Go.Act → World → Prop} {rest : List Oper} {o : Oper} {a : Go.Act} {w : World} (t : TypeId) (x y : Operand) (ho : o.op = .store t x y) (h : wpList P ops Q (o :: rest) a w) : wpList P ops Q (o :: rest) a w:=h
theorem minV (x y : Int) : (if y < x then Value.int .i64 y else Value.int .i64 x) = .int .i64 (minT x y):=by unfold minT;split <;> rfl
theorem minT_idem (a b : Int) : minT (minT a b) b = minT a b:=minT_ge _ _ (by have:=(minT_le a b).2.1;omega)
theorem may_open {b : Bt} (k : Ok b) (ho : openB b = true) : mayB b = (!nthB b.ac b.tu.toNat && decide (topI b - nth b.bt b.tu.toNat < nth b.st b.tu.toNat) && decide (1 < cntI b) && (!(b.li == 2) || decide (b.ra < 4))):=by
 unfold openB mustB at ho
 rw [Bool.and_eq_true] at ho
 have:=k.t0
 have:=k.t1
 unfold mayB
 rw [ano_cnt b b.tu.toNat (by omega) ho.1]
 rfl
set_option maxRecDepth 100000 in
set_option maxHeartbeats 3000000 in
theorem l10Choices_any (L : At5) (b : Bt) (w : World) (h : Rd5 w L b) (k : Ok b) (ho : openB b = true) :
  Calls Try.prog 70 #[bV L b] w (Fresh (chV (checkB b) (callI b) (leastI b) (mostI b)) w):=by
 have hmx : Try.prog.follows .mixedOrders = true:=by kernel_rfl
 have iC : (Try.prog.info? 30).map (·.size) = some 4:=by kernel_rfl
 have uC:=Try.underlying30
 have i1 : (Try.prog.info? 2).map (·.size) = some 1:=by kernel_rfl
 obtain ⟨t,et⟩ : ∃ t : Int,t = topI b:=⟨_,rfl⟩
 obtain ⟨p,ep⟩ : ∃ p : Int,p = potI b:=⟨_,rfl⟩
 obtain ⟨n,en⟩ : ∃ n : Int,n = cntI b:=⟨_,rfl⟩
 obtain ⟨x,ex⟩ : ∃ x : Int,x = nth b.st b.tu.toNat:=⟨_,rfl⟩
 obtain ⟨y,ey⟩ : ∃ y : Int,y = nth b.bt b.tu.toNat:=⟨_,rfl⟩
 obtain ⟨a,ea⟩ : ∃ a : Bool,a = nthB b.ac b.tu.toNat:=⟨_,rfl⟩
 have ht0:=k.t0
 have ht1:=k.t1
 have n6:=k.n6
 have l2:=k.l2
 have l3:=k.l3
 have l4:=k.l4
 have l5:=k.l5
 have KM:=Lib.hid (fun (L : At5) (W : World) (hW : Rd5 W L b)=>l10Match_any L b W hW (by omega))
 have KN:=Lib.hid (fun (L : At5) (W : World) (hW : Rd5 W L b)=>l10Count_any L b W hW n6 l4)
 have KP:=Lib.hid (fun (L : At5) (W : World) (hW : Rd5 W L b)=>l10Pot_any L b W hW (by omega) (by omega) k.s2 k.s3)
 rw [← et] at KM
 rw [← en] at KN
 rw [← ep] at KP
 have bt1 : 0 ≤ t ∧ t ≤ 600000:=by rw [et];exact top_bd k.sd
 have bt2 : 0 ≤ y ∧ y ≤ 600000:=by rw [ey];exact k.s2 _ (by omega)
 have bt3 : 0 ≤ x ∧ x ≤ 600000:=by rw [ex];exact k.s1 _ (by omega)
 have bt4 : y ≤ t:=by rw [ey,et];exact top_ge _ (by omega)
 have bt5 : 0 ≤ p ∧ p ≤ 10000000:=by
  have:=sumT_bdC b.bt k.s2 _ (Nat.le_refl _)
  have:=sumT_bdC b.pd k.s3 _ (Nat.le_refl _)
  rw [ep];unfold potI;omega
 have bt6:=k.u0
 have bt7:=k.u1
 have bt8:=(cntK_bd b b.st.length)
 have H1 : Hid (checkB b = (y == t)):=Lib.hid (by
  unfold checkB missI;rw [← et,← ey]
  by_cases e : y = t
  ·subst e;simp
  ·rw [show (y == t) = false by simpa using e];simp;omega)
 have H2 : Hid (callI b = minT (t - y) x):=Lib.hid (by unfold callI missI;rw [← et,← ey,← ex])
 have H3 : Hid (mayB b = (!a && decide (t - y < x) && decide (1 < n) && (!(b.li == 2) || decide (b.ra < 4)))):=Lib.hid (by rw [may_open k ho,← et,← ey,← ex,← ea,← en])
 have H4 : Hid (mostR b = if b.li = 1 then minT (y + x) (t + p + t - y) else if b.li = 2 then minT (y + x) (t + b.un) else y + x):=Lib.hid (by
  unfold mostR allIn missI;rw [← et,← ey,← ex,← ep,show t + p + (t - y) = t + p + t - y by omega])
 have H5 : Hid (mostI b = if mayB b = true then mostR b else 0):=Lib.hid rfl
 have H6 : Hid (leastI b = if mayB b = true then minT (mostR b) (t + b.un) else 0):=Lib.hid (by unfold leastI;rw [← et])
 have g1:=h.r1.at_0 b.tu.toNat (by omega)
 have g2:=h.r2.at_0 b.tu.toNat (by omega)
 have g5:=h.r5.at_0 b.tu.toNat (by omega)
 rw [← ex] at g1
 rw [← ey] at g2
 rw [← ea] at g5
 rw [H1.out,H2.out]
 generalize mayB b = my at *
 generalize mostR b = mr at *
 generalize mostI b = mo at *
 generalize leastI b = le at *
 clear et ep en ex ey ea H1 H2 k ho l3 l4 bt8
 obtain ⟨i,hi⟩:=Int.eq_ofNat_of_zero_le ht0
 obtain ⟨st,bt,pd,fo,ac,tu,un,ra,li⟩:=b
 obtain ⟨A1,A2,A3,A4,A5,e1c,e2c,e3c,e4c,e5c⟩:=L
 obtain rfl : tu = (i : Int):=hi
 simp only [Int.toNat_natCast] at g1 g2 g5
 obtain ⟨b1,o1,rfl,hc1⟩ : ∃ b1 o1,A1 = some ⟨b1,o1,none⟩ ∧ w.cell? ⟨b1,o1 + i,none⟩ = some (.int .i64 x):=g1
 obtain ⟨b2,o2,rfl,hc2⟩ : ∃ b2 o2,A2 = some ⟨b2,o2,none⟩ ∧ w.cell? ⟨b2,o2 + i,none⟩ = some (.int .i64 y):=g2
 obtain ⟨b5,o5,rfl,hc5⟩ : ∃ b5 o5,A5 = some ⟨b5,o5,none⟩ ∧ w.cell? ⟨b5,o5 + i,none⟩ = some (.bool a):=g5
 have d1 : (i : Int) < st.length:=ht1
 have d2 : (i : Int) < bt.length:=by (have q : bt.length = st.length:=l2);omega
 have d5 : (i : Int) < ac.length:=by (have q : ac.length = st.length:=l5);omega
 have BT : BtAt (w.alloc (.cells ([.slice (some ⟨b1,o1,none⟩) st.length e1c,.slice (some ⟨b2,o2,none⟩) bt.length e2c,.slice A3 pd.length e3c,.slice A4 fo.length e4c,.slice (some ⟨b5,o5,none⟩) ac.length e5c,.int .i64 i,.int .i64 un,.int .i64 ra,.int .i64 li] : List Value).toArray 27)) w.heap.size ⟨some ⟨b1,o1,none⟩,some ⟨b2,o2,none⟩,A3,A4,some ⟨b5,o5,none⟩,e1c,e2c,e3c,e4c,e5c⟩ ⟨st,bt,pd,fo,ac,(i : Int),un,ra,li⟩:=btAt_new h
 have NB : Hid (Blk ((w.alloc (.cells ([.slice (some ⟨b1,o1,none⟩) st.length e1c,.slice (some ⟨b2,o2,none⟩) bt.length e2c,.slice A3 pd.length e3c,.slice A4 fo.length e4c,.slice (some ⟨b5,o5,none⟩) ac.length e5c,.int .i64 i,.int .i64 un,.int .i64 ra,.int .i64 li] : List Value).toArray 27)).alloc (.cells ([.bool false,.int .i64 0,.int .i64 0,.int .i64 0] : List Value).toArray 30)) w.heap.size 27 [.slice (some ⟨b1,o1,none⟩) st.length e1c,.slice (some ⟨b2,o2,none⟩) bt.length e2c,.slice A3 pd.length e3c,.slice A4 fo.length e4c,.slice (some ⟨b5,o5,none⟩) ac.length e5c,.int .i64 i,.int .i64 un,.int .i64 ra,.int .i64 li]):=Lib.hid (BT.blk.below (bl_alloc (bl_refl _) _))
 have NZ:=blk_new (w.alloc (.cells ([.slice (some ⟨b1,o1,none⟩) st.length e1c,.slice (some ⟨b2,o2,none⟩) bt.length e2c,.slice A3 pd.length e3c,.slice A4 fo.length e4c,.slice (some ⟨b5,o5,none⟩) ac.length e5c,.int .i64 i,.int .i64 un,.int .i64 ra,.int .i64 li] : List Value).toArray 27)) 30 [.bool false,.int .i64 0,.int .i64 0,.int .i64 0]
 rw [World.size_alloc] at NZ
 have NR : Hid (Blk ((w.alloc (.cells ([.slice (some ⟨b1,o1,none⟩) st.length e1c,.slice (some ⟨b2,o2,none⟩) bt.length e2c,.slice A3 pd.length e3c,.slice A4 fo.length e4c,.slice (some ⟨b5,o5,none⟩) ac.length e5c,.int .i64 i,.int .i64 un,.int .i64 ra,.int .i64 li] : List Value).toArray 27)).alloc (.cells ([.bool false,.int .i64 0,.int .i64 0,.int .i64 0] : List Value).toArray 30)) (w.heap.size + 1) 30 [.bool false,.int .i64 0,.int .i64 0,.int .i64 0]):=Lib.hid NZ
 have B : Hid (Below w.heap.size w ((w.alloc (.cells ([.slice (some ⟨b1,o1,none⟩) st.length e1c,.slice (some ⟨b2,o2,none⟩) bt.length e2c,.slice A3 pd.length e3c,.slice A4 fo.length e4c,.slice (some ⟨b5,o5,none⟩) ac.length e5c,.int .i64 i,.int .i64 un,.int .i64 ra,.int .i64 li] : List Value).toArray 27)).alloc (.cells ([.bool false,.int .i64 0,.int .i64 0,.int .i64 0] : List Value).toArray 30))):=Lib.hid (bl_alloc (bl_alloc (bl_refl w) _) _)
 have HH:=Lib.hid h
 have X1 : Hid (∀ W',Below w.heap.size w W' → W'.cell? ⟨b1,o1 + i,none⟩ = some (.int .i64 x)):=Lib.hid (fun W' hI=>(hI.cell (p:=⟨b1,o1 + i,none⟩) (World.block_lt_of_cell? _ _ hc1)).trans hc1)
 have X2 : Hid (∀ W',Below w.heap.size w W' → W'.cell? ⟨b2,o2 + i,none⟩ = some (.int .i64 y)):=Lib.hid (fun W' hI=>(hI.cell (p:=⟨b2,o2 + i,none⟩) (World.block_lt_of_cell? _ _ hc2)).trans hc2)
 have X5 : Hid (∀ W',Below w.heap.size w W' → W'.cell? ⟨b5,o5 + i,none⟩ = some (.bool a)):=Lib.hid (fun W' hI=>(hI.cell (p:=⟨b5,o5 + i,none⟩) (World.block_lt_of_cell? _ _ hc5)).trans hc5)
 dsimp only at H3 H4 H5 H6 bt6 bt7 n6
 clear h BT NZ hc1 hc2 hc5 ht0 ht1 l2 l5
 have KMX : Hid (∀ W : World,Rd5 W ⟨some ⟨b1,o1,none⟩,some ⟨b2,o2,none⟩,A3,A4,some ⟨b5,o5,none⟩,e1c,e2c,e3c,e4c,e5c⟩ ⟨st,bt,pd,fo,ac,(i : Int),un,ra,li⟩ → Calls Try.prog 137 #[.agg #[.slice (some ⟨b1,o1,none⟩) st.length e1c,.slice (some ⟨b2,o2,none⟩) bt.length e2c,.slice A3 pd.length e3c,.slice A4 fo.length e4c,.slice (some ⟨b5,o5,none⟩) ac.length e5c,.int .i64 i,.int .i64 un,.int .i64 ra,.int .i64 li]] W (Fresh (.int .i64 t) W)):=Lib.hid (fun W hW=>KM.out ⟨some ⟨b1,o1,none⟩,some ⟨b2,o2,none⟩,A3,A4,some ⟨b5,o5,none⟩,e1c,e2c,e3c,e4c,e5c⟩ W hW)
 have KNX : Hid (∀ W : World,Rd5 W ⟨some ⟨b1,o1,none⟩,some ⟨b2,o2,none⟩,A3,A4,some ⟨b5,o5,none⟩,e1c,e2c,e3c,e4c,e5c⟩ ⟨st,bt,pd,fo,ac,(i : Int),un,ra,li⟩ → Calls Try.prog 111 #[.agg #[.slice (some ⟨b1,o1,none⟩) st.length e1c,.slice (some ⟨b2,o2,none⟩) bt.length e2c,.slice A3 pd.length e3c,.slice A4 fo.length e4c,.slice (some ⟨b5,o5,none⟩) ac.length e5c,.int .i64 i,.int .i64 un,.int .i64 ra,.int .i64 li]] W (Fresh (.int .i64 n) W)):=Lib.hid (fun W hW=>KN.out ⟨some ⟨b1,o1,none⟩,some ⟨b2,o2,none⟩,A3,A4,some ⟨b5,o5,none⟩,e1c,e2c,e3c,e4c,e5c⟩ W hW)
 have KPX : Hid (∀ W : World,Rd5 W ⟨some ⟨b1,o1,none⟩,some ⟨b2,o2,none⟩,A3,A4,some ⟨b5,o5,none⟩,e1c,e2c,e3c,e4c,e5c⟩ ⟨st,bt,pd,fo,ac,(i : Int),un,ra,li⟩ → Calls Try.prog 81 #[.agg #[.slice (some ⟨b1,o1,none⟩) st.length e1c,.slice (some ⟨b2,o2,none⟩) bt.length e2c,.slice A3 pd.length e3c,.slice A4 fo.length e4c,.slice (some ⟨b5,o5,none⟩) ac.length e5c,.int .i64 i,.int .i64 un,.int .i64 ra,.int .i64 li]] W (Fresh (.int .i64 p) W)):=Lib.hid (fun W hW=>KP.out ⟨some ⟨b1,o1,none⟩,some ⟨b2,o2,none⟩,A3,A4,some ⟨b5,o5,none⟩,e1c,e2c,e3c,e4c,e5c⟩ W hW)
 have dm1:=minV (t - y) x
 have dm2:=minV (y + x) (t + p + t - y)
 have dm3:=minV (y + x) (t + un)
 have dm4:=minV mr (t + un)
 have dn1 : (if x < t - y then x else t - y) = minT (t - y) x:=rfl
 have dn2 : (if t + p + t - y < y + x then t + p + t - y else y + x) = minT (y + x) (t + p + t - y):=rfl
 have dn3 : (if t + un < y + x then t + un else y + x) = minT (y + x) (t + un):=rfl
 have dn4 : (if t + un < mr then t + un else mr) = minT mr (t + un):=rfl
 have NB1:=NB.out
 obtain ⟨q0,-⟩:=NB1.cell 0 _ rfl
 obtain ⟨q1,-⟩:=NB1.cell 1 _ rfl
 obtain ⟨q2,-⟩:=NB1.cell 2 _ rfl
 obtain ⟨q3,-⟩:=NB1.cell 3 _ rfl
 obtain ⟨q4,-⟩:=NB1.cell 4 _ rfl
 obtain ⟨q5,-⟩:=NB1.cell 5 _ rfl
 obtain ⟨q6,-⟩:=NB1.cell 6 _ rfl
 obtain ⟨q7,-⟩:=NB1.cell 7 _ rfl
 obtain ⟨q8,-⟩:=NB1.cell 8 _ rfl
 clear NB1 KM KN KP
 show Calls Try.prog 70 #[.agg #[.slice (some ⟨b1,o1,none⟩) st.length e1c,.slice (some ⟨b2,o2,none⟩) bt.length e2c,.slice A3 pd.length e3c,.slice A4 fo.length e4c,.slice (some ⟨b5,o5,none⟩) ac.length e5c,.int .i64 i,.int .i64 un,.int .i64 ra,.int .i64 li]] w _
 go_enter Try.func70,Try.ntmps70
 go_wp2_with fail
 have XA : Hid (∀ W',Below ((w.alloc (.cells ([.slice (some ⟨b1,o1,none⟩) st.length e1c,.slice (some ⟨b2,o2,none⟩) bt.length e2c,.slice A3 pd.length e3c,.slice A4 fo.length e4c,.slice (some ⟨b5,o5,none⟩) ac.length e5c,.int .i64 i,.int .i64 un,.int .i64 ra,.int .i64 li] : List Value).toArray 27)).alloc (.cells ([.bool false,.int .i64 0,.int .i64 0,.int .i64 0] : List Value).toArray 30)).heap.size ((w.alloc (.cells ([.slice (some ⟨b1,o1,none⟩) st.length e1c,.slice (some ⟨b2,o2,none⟩) bt.length e2c,.slice A3 pd.length e3c,.slice A4 fo.length e4c,.slice (some ⟨b5,o5,none⟩) ac.length e5c,.int .i64 i,.int .i64 un,.int .i64 ra,.int .i64 li] : List Value).toArray 27)).alloc (.cells ([.bool false,.int .i64 0,.int .i64 0,.int .i64 0] : List Value).toArray 30)) W' → W'.cell? ⟨b1,o1 + i,none⟩ = some (.int .i64 x)):=Lib.hid (fun W' hI=>X1.out W' (bl_trans B.out hI))
 have XB : Hid (∀ W',Below ((w.alloc (.cells ([.slice (some ⟨b1,o1,none⟩) st.length e1c,.slice (some ⟨b2,o2,none⟩) bt.length e2c,.slice A3 pd.length e3c,.slice A4 fo.length e4c,.slice (some ⟨b5,o5,none⟩) ac.length e5c,.int .i64 i,.int .i64 un,.int .i64 ra,.int .i64 li] : List Value).toArray 27)).alloc (.cells ([.bool false,.int .i64 0,.int .i64 0,.int .i64 0] : List Value).toArray 30)).heap.size ((w.alloc (.cells ([.slice (some ⟨b1,o1,none⟩) st.length e1c,.slice (some ⟨b2,o2,none⟩) bt.length e2c,.slice A3 pd.length e3c,.slice A4 fo.length e4c,.slice (some ⟨b5,o5,none⟩) ac.length e5c,.int .i64 i,.int .i64 un,.int .i64 ra,.int .i64 li] : List Value).toArray 27)).alloc (.cells ([.bool false,.int .i64 0,.int .i64 0,.int .i64 0] : List Value).toArray 30)) W' → W'.cell? ⟨b2,o2 + i,none⟩ = some (.int .i64 y)):=Lib.hid (fun W' hI=>X2.out W' (bl_trans B.out hI))
 refine wp_region_W (last:=16) (k:=16) hmx rfl (fun HC0=>?_)
 refine wpAnyR_takeL (i:=0) (kw:=17) (v:=.pointer (some ⟨w.heap.size,1,none⟩)) (fun _=>bl_refl _) (fun p q=>bl_trans p q) rfl rfl (by kernel_rfl) (by kernel_rfl) (by kernel_rfl) (by kernel_rfl) (fun _ _ _ h=>h) HC0 (Or.inl ⟨by kernel_rfl,fun W' hI=>?_⟩) (fun HC1=>?_)
 ·exact .inl (by go_simp)
 refine wpAnyR_takeL (i:=1) (kw:=17) (v:=.slice (some ⟨b2,o2,none⟩) bt.length e2c) (fun _=>bl_refl _) (fun p q=>bl_trans p q) rfl rfl (by kernel_rfl) (by kernel_rfl) (by kernel_rfl) (by kernel_rfl) (fun _ _ _ h=>h) HC1 (Or.inl ⟨by kernel_rfl,fun W' hI=>?_⟩) (fun HC2=>?_)
 ·have hv:=(NB.out).below hI
  obtain ⟨z1,_⟩:=hv.cell 1 _ rfl
  exact .inl (by go_simp)
 refine wpAnyR_takeL (i:=2) (kw:=17) (v:=.pointer (some ⟨w.heap.size,5,none⟩)) (fun _=>bl_refl _) (fun p q=>bl_trans p q) rfl rfl (by kernel_rfl) (by kernel_rfl) (by kernel_rfl) (by kernel_rfl) (fun _ _ _ h=>h) HC2 (Or.inl ⟨by kernel_rfl,fun W' hI=>?_⟩) (fun HC3=>?_)
 ·exact .inl (by go_simp)
 refine wpAnyR_takeL (i:=3) (kw:=17) (v:=.int .i64 i) (fun _=>bl_refl _) (fun p q=>bl_trans p q) rfl rfl (by kernel_rfl) (by kernel_rfl) (by kernel_rfl) (by kernel_rfl) (fun _ _ _ h=>h) HC3 (Or.inl ⟨by kernel_rfl,fun W' hI=>?_⟩) (fun HC4=>?_)
 ·have hv:=(NB.out).below hI
  obtain ⟨z5,_⟩:=hv.cell 5 _ rfl
  exact .inl (by go_simp)
 refine wpAnyR_takeL (i:=4) (kw:=17) (v:=.pointer (some ⟨b2,o2 + i,none⟩)) (fun _=>bl_refl _) (fun p q=>bl_trans p q) rfl rfl (by kernel_rfl) (by kernel_rfl) (by kernel_rfl) (by kernel_rfl) (fun _ _ _ h=>h) HC4 (Or.inl ⟨by kernel_rfl,fun W' hI=>?_⟩) (fun HC5=>?_)
 ·exact .inl (by go_simp)
 refine wpAnyR_takeL (i:=5) (kw:=17) (v:=.int .i64 y) (fun _=>bl_refl _) (fun p q=>bl_trans p q) rfl rfl (by kernel_rfl) (by kernel_rfl) (by kernel_rfl) (by kernel_rfl) (fun _ _ _ h=>h) HC5 (Or.inl ⟨by kernel_rfl,fun W' hI=>?_⟩) (fun HC6=>?_)
 ·have hx:=XB.out W' hI
  exact .inl (by go_simp)
 refine wpAnyR_takeL (i:=6) (kw:=17) (v:=.pointer (some ⟨w.heap.size,0,none⟩)) (fun _=>bl_refl _) (fun p q=>bl_trans p q) rfl rfl (by kernel_rfl) (by kernel_rfl) (by kernel_rfl) (by kernel_rfl) (fun _ _ _ h=>h) HC6 (Or.inl ⟨by kernel_rfl,fun W' hI=>?_⟩) (fun HC7=>?_)
 ·exact .inl (by go_simp)
 refine wpAnyR_takeL (i:=7) (kw:=17) (v:=.slice (some ⟨b1,o1,none⟩) st.length e1c) (fun _=>bl_refl _) (fun p q=>bl_trans p q) rfl rfl (by kernel_rfl) (by kernel_rfl) (by kernel_rfl) (by kernel_rfl) (fun _ _ _ h=>h) HC7 (Or.inl ⟨by kernel_rfl,fun W' hI=>?_⟩) (fun HC8=>?_)
 ·have hv:=(NB.out).below hI
  obtain ⟨z0,_⟩:=hv.cell 0 _ rfl
  exact .inl (by go_simp)
 refine wpAnyR_takeL (i:=8) (kw:=17) (v:=.pointer (some ⟨w.heap.size,5,none⟩)) (fun _=>bl_refl _) (fun p q=>bl_trans p q) rfl rfl (by kernel_rfl) (by kernel_rfl) (by kernel_rfl) (by kernel_rfl) (fun _ _ _ h=>h) HC8 (Or.inl ⟨by kernel_rfl,fun W' hI=>?_⟩) (fun HC9=>?_)
 ·exact .inl (by go_simp)
 refine wpAnyR_takeL (i:=9) (kw:=17) (v:=.int .i64 i) (fun _=>bl_refl _) (fun p q=>bl_trans p q) rfl rfl (by kernel_rfl) (by kernel_rfl) (by kernel_rfl) (by kernel_rfl) (fun _ _ _ h=>h) HC9 (Or.inl ⟨by kernel_rfl,fun W' hI=>?_⟩) (fun HC10=>?_)
 ·have hv:=(NB.out).below hI
  obtain ⟨z5,_⟩:=hv.cell 5 _ rfl
  exact .inl (by go_simp)
 refine wpAnyR_takeL (i:=10) (kw:=17) (v:=.pointer (some ⟨b1,o1 + i,none⟩)) (fun _=>bl_refl _) (fun p q=>bl_trans p q) rfl rfl (by kernel_rfl) (by kernel_rfl) (by kernel_rfl) (by kernel_rfl) (fun _ _ _ h=>h) HC10 (Or.inl ⟨by kernel_rfl,fun W' hI=>?_⟩) (fun HC11=>?_)
 ·exact .inl (by go_simp)
 refine wpAnyR_takeL (i:=11) (kw:=17) (v:=.int .i64 x) (fun _=>bl_refl _) (fun p q=>bl_trans p q) rfl rfl (by kernel_rfl) (by kernel_rfl) (by kernel_rfl) (by kernel_rfl) (fun _ _ _ h=>h) HC11 (Or.inl ⟨by kernel_rfl,fun W' hI=>?_⟩) (fun HC12=>?_)
 ·have hx:=XA.out W' hI
  exact .inl (by go_simp)
 refine wpAnyR_takeL (i:=12) (kw:=2) (v:=.agg #[.slice (some ⟨b1,o1,none⟩) st.length e1c,.slice (some ⟨b2,o2,none⟩) bt.length e2c,.slice A3 pd.length e3c,.slice A4 fo.length e4c,.slice (some ⟨b5,o5,none⟩) ac.length e5c,.int .i64 i,.int .i64 un,.int .i64 ra,.int .i64 li]) (fun _=>bl_refl _) (fun p q=>bl_trans p q) rfl rfl (by kernel_rfl) (by kernel_rfl) (by kernel_rfl) (by kernel_rfl) (fun _ _ _ h=>h) HC12 (Or.inl ⟨by kernel_rfl,fun W' hI=>?_⟩) (fun HC13=>?_)
 ·have hv:=(NB.out).below hI
  obtain ⟨z0,_⟩:=hv.cell 0 _ rfl
  obtain ⟨z1,_⟩:=hv.cell 1 _ rfl
  obtain ⟨z2,_⟩:=hv.cell 2 _ rfl
  obtain ⟨z3,_⟩:=hv.cell 3 _ rfl
  obtain ⟨z4,_⟩:=hv.cell 4 _ rfl
  obtain ⟨z5,_⟩:=hv.cell 5 _ rfl
  obtain ⟨z6,_⟩:=hv.cell 6 _ rfl
  obtain ⟨z7,_⟩:=hv.cell 7 _ rfl
  obtain ⟨z8,_⟩:=hv.cell 8 _ rfl
  exact .inl (by go_simp)
 refine wpAnyR_takeL (i:=13) (kw:=1) (v:=.int .i64 t) (fun _=>bl_refl _) (fun p q=>bl_trans p q) rfl rfl (by kernel_rfl) (by kernel_rfl) (by kernel_rfl) (by kernel_rfl) (fun _ _ _ h=>h) HC13 (Or.inl ⟨by kernel_rfl,fun W' hI=>?_⟩) (fun HC14=>?_)
 ·exact .inr ⟨137,#[.agg #[.slice (some ⟨b1,o1,none⟩) st.length e1c,.slice (some ⟨b2,o2,none⟩) bt.length e2c,.slice A3 pd.length e3c,.slice A4 fo.length e4c,.slice (some ⟨b5,o5,none⟩) ac.length e5c,.int .i64 i,.int .i64 un,.int .i64 ra,.int .i64 li]],by go_simp,KMX.out W' (HH.out.below (bl_trans B.out hI))⟩
 refine wpAnyR_takeL (i:=14) (kw:=17) (v:=.int .i64 y) (fun _=>bl_refl _) (fun p q=>bl_trans p q) rfl rfl (by kernel_rfl) (by kernel_rfl) (by kernel_rfl) (by kernel_rfl) (fun _ _ _ h=>h) HC14 (Or.inl ⟨by kernel_rfl,fun W' hI=>?_⟩) (fun HC15=>?_)
 ·exact .inl (by go_simp)
 refine wpAnyR_takeL (i:=15) (kw:=17) (v:=.int .i64 x) (fun _=>bl_refl _) (fun p q=>bl_trans p q) rfl rfl (by kernel_rfl) (by kernel_rfl) (by kernel_rfl) (by kernel_rfl) (fun _ _ _ h=>h) HC15 (Or.inl ⟨by kernel_rfl,fun W' hI=>?_⟩) (fun HC16=>?_)
 ·exact .inl (by go_simp)
 refine wpAnyR_lastL (by kernel_rfl) (by kernel_rfl) rfl (by kernel_rfl) (fun wR hrR=>⟨bl_drewT hrR,?_⟩)
 intro K hK
 have BR:=Lib.hid (bl_drewT hrR)
 clear hrR
 go_simp
 refine hK _ _ ?_
 clear hK K XA XB
 have C5 : Hid (Chs w wR.heap.size ⟨some ⟨b1,o1,none⟩,some ⟨b2,o2,none⟩,A3,A4,some ⟨b5,o5,none⟩,e1c,e2c,e3c,e4c,e5c⟩ ⟨st,bt,pd,fo,ac,(i : Int),un,ra,li⟩ [.bool (y == t),.int .i64 (minT (t - y) x),.int .i64 0,.int .i64 0] (wR.alloc (.cells ([.bool (y == t),.int .i64 (minT (t - y) x),.int .i64 0,.int .i64 0] : List Value).toArray 30))):=Lib.hid ⟨(NB.out.below BR.out).below (bl_alloc (bl_refl wR) _),HH.out,(NR.out.below BR.out).below (bl_alloc (bl_refl wR) _),blk_new wR _ _,(NR.out.below BR.out).lt,bl_trans (bl_trans B.out BR.out) (bl_alloc (bl_refl wR) _)⟩
 have HX5:=X5.out _ C5.out.all
 have C51:=C5.out.box
 obtain ⟨y0,-⟩:=C51.cell 0 _ rfl
 obtain ⟨y1,-⟩:=C51.cell 1 _ rfl
 obtain ⟨y2,-⟩:=C51.cell 2 _ rfl
 obtain ⟨y3,-⟩:=C51.cell 3 _ rfl
 obtain ⟨y4,-⟩:=C51.cell 4 _ rfl
 obtain ⟨y5,-⟩:=C51.cell 5 _ rfl
 obtain ⟨y6,-⟩:=C51.cell 6 _ rfl
 obtain ⟨y7,-⟩:=C51.cell 7 _ rfl
 obtain ⟨y8,-⟩:=C51.cell 8 _ rfl
 clear C51 NB NR
 rcases a with _ | _
 rotate_left
 ·obtain rfl : my = false:=by rw [H3.out];simp
  obtain rfl : mo = 0:=H5.out
  obtain rfl : le = 0:=H6.out
  go_wp2_with (first
   | (with_reducible refine wpList_load_blk 30 _ 4 rfl (.tmp 6) rfl uC rfl iC wR.heap.size 0 rfl [.bool (y == t),.int .i64 (minT (t - y) x),.int .i64 0,.int .i64 0] rfl C5.out.own.range ?_)
   | ((with_reducible refine at_st 30 (.tmp 2) (.tmp 58) rfl ?_);(try simp only [Act.put,List.setIfInBounds_toArray,List.set_cons_succ,List.set_cons_zero]);refine wpList_store_blk 30 4 rfl (.tmp 2) (.tmp 58) rfl iC (w.heap.size + 1) rfl [.bool (y == t),.int .i64 (minT (t - y) x),.int .i64 0,.int .i64 0] rfl rfl (by simp [Value.oneCell']) _ C5.out.res rfl ?_;intro w9 k9 g9;have B9:=Lib.hid (below_grown1 C5.out.all g9 (by omega))))
  obtain ⟨z0,_⟩:=k9.cell 0 _ rfl
  obtain ⟨z1,_⟩:=k9.cell 1 _ rfl
  obtain ⟨z2,_⟩:=k9.cell 2 _ rfl
  obtain ⟨z3,_⟩:=k9.cell 3 _ rfl
  exact bodyPost_ret (v:=.agg #[.bool (y == t),.int .i64 (minT (t - y) x),.int .i64 0,.int .i64 0]) (by simp [results,Try.results70,go_sem,z0,z1,z2,z3]) rfl ⟨rfl,B9.out⟩
 by_cases c1 : x ≤ t - y
 ·have c2 : decide (x ≤ t - y) = true:=decide_eq_true c1
  have c3 : decide (t - y < x) = false:=decide_eq_false (by omega)
  obtain rfl : my = false:=by rw [H3.out];simp [c3]
  obtain rfl : mo = 0:=H5.out
  obtain rfl : le = 0:=H6.out
  go_wp2_with (first
   | (with_reducible refine wpList_load_blk 30 _ 4 rfl (.tmp 6) rfl uC rfl iC wR.heap.size 0 rfl [.bool (y == t),.int .i64 (minT (t - y) x),.int .i64 0,.int .i64 0] rfl C5.out.own.range ?_)
   | ((with_reducible refine at_st 30 (.tmp 2) (.tmp 58) rfl ?_);(try simp only [Act.put,List.setIfInBounds_toArray,List.set_cons_succ,List.set_cons_zero]);refine wpList_store_blk 30 4 rfl (.tmp 2) (.tmp 58) rfl iC (w.heap.size + 1) rfl [.bool (y == t),.int .i64 (minT (t - y) x),.int .i64 0,.int .i64 0] rfl rfl (by simp [Value.oneCell']) _ C5.out.res rfl ?_;intro w9 k9 g9;have B9:=Lib.hid (below_grown1 C5.out.all g9 (by omega))))
  obtain ⟨z0,_⟩:=k9.cell 0 _ rfl
  obtain ⟨z1,_⟩:=k9.cell 1 _ rfl
  obtain ⟨z2,_⟩:=k9.cell 2 _ rfl
  obtain ⟨z3,_⟩:=k9.cell 3 _ rfl
  exact bodyPost_ret (v:=.agg #[.bool (y == t),.int .i64 (minT (t - y) x),.int .i64 0,.int .i64 0]) (by simp [results,Try.results70,go_sem,z0,z1,z2,z3]) rfl ⟨rfl,B9.out⟩
 have c2 : decide (x ≤ t - y) = false:=decide_eq_false c1
 have c3 : decide (t - y < x) = true:=decide_eq_true (by omega)
 have em : minT (t - y) x = t - y:=minT_ge _ _ (by omega)
 rw [em] at C5 HX5 y0 y1 y2 y3 y4 y5 y6 y7 y8 dn1 dm1 ⊢
 have EM:=Lib.hid em
 clear em
 by_cases c4 : n < 2
 ·have c5 : decide (n < 2) = true:=decide_eq_true c4
  have c6 : decide (1 < n) = false:=decide_eq_false (by omega)
  obtain rfl : my = false:=by rw [H3.out];simp [c6]
  obtain rfl : mo = 0:=H5.out
  obtain rfl : le = 0:=H6.out
  go_wp2_with (first
   | (go_at_call 111;refine (KNX.out _ C5.out.rd).mono ?_;rintro e w3 ⟨rfl,hb3⟩;have C3:=Lib.hid (C5.out.below hb3);obtain ⟨u0,-⟩:=C3.out.box.cell 0 _ rfl;obtain ⟨u1,-⟩:=C3.out.box.cell 1 _ rfl;obtain ⟨u2,-⟩:=C3.out.box.cell 2 _ rfl;obtain ⟨u3,-⟩:=C3.out.box.cell 3 _ rfl;obtain ⟨u4,-⟩:=C3.out.box.cell 4 _ rfl;obtain ⟨u5,-⟩:=C3.out.box.cell 5 _ rfl;obtain ⟨u6,-⟩:=C3.out.box.cell 6 _ rfl;obtain ⟨u7,-⟩:=C3.out.box.cell 7 _ rfl;obtain ⟨u8,-⟩:=C3.out.box.cell 8 _ rfl)
   | (with_reducible refine wpList_load_blk 30 _ 4 rfl (.tmp 6) rfl uC rfl iC wR.heap.size 0 rfl [.bool (y == t),.int .i64 (t - y),.int .i64 0,.int .i64 0] rfl C3.out.own.range ?_)
   | ((with_reducible refine at_st 30 (.tmp 2) (.tmp 58) rfl ?_);(try simp only [Act.put,List.setIfInBounds_toArray,List.set_cons_succ,List.set_cons_zero]);refine wpList_store_blk 30 4 rfl (.tmp 2) (.tmp 58) rfl iC (w.heap.size + 1) rfl [.bool (y == t),.int .i64 (t - y),.int .i64 0,.int .i64 0] rfl rfl (by simp [Value.oneCell']) _ C3.out.res rfl ?_;intro w9 k9 g9;have B9:=Lib.hid (below_grown1 C3.out.all g9 (by omega))))
  obtain ⟨z0,_⟩:=k9.cell 0 _ rfl
  obtain ⟨z1,_⟩:=k9.cell 1 _ rfl
  obtain ⟨z2,_⟩:=k9.cell 2 _ rfl
  obtain ⟨z3,_⟩:=k9.cell 3 _ rfl
  exact bodyPost_ret (v:=.agg #[.bool (y == t),.int .i64 (t - y),.int .i64 0,.int .i64 0]) (by simp [results,Try.results70,go_sem,z0,z1,z2,z3]) rfl ⟨by rw [EM.out];rfl,B9.out⟩
 have c5 : decide (n < 2) = false:=decide_eq_false c4
 have c6 : decide (1 < n) = true:=decide_eq_true (by omega)
 by_cases c7 : li = 2 ∧ 4 ≤ ra
 ·have c8 : (li == 2) = true:=by simpa using c7.1
  have c9 : decide (4 ≤ ra) = true:=decide_eq_true c7.2
  have c10 : decide (ra < 4) = false:=decide_eq_false (by omega)
  obtain rfl : my = false:=by rw [H3.out];simp [c8,c10]
  clear c7
  obtain rfl : mo = 0:=H5.out
  obtain rfl : le = 0:=H6.out
  go_wp2_with (first
   | (go_at_call 111;refine (KNX.out _ C5.out.rd).mono ?_;rintro e w3 ⟨rfl,hb3⟩;have C3:=Lib.hid (C5.out.below hb3);obtain ⟨u0,-⟩:=C3.out.box.cell 0 _ rfl;obtain ⟨u1,-⟩:=C3.out.box.cell 1 _ rfl;obtain ⟨u2,-⟩:=C3.out.box.cell 2 _ rfl;obtain ⟨u3,-⟩:=C3.out.box.cell 3 _ rfl;obtain ⟨u4,-⟩:=C3.out.box.cell 4 _ rfl;obtain ⟨u5,-⟩:=C3.out.box.cell 5 _ rfl;obtain ⟨u6,-⟩:=C3.out.box.cell 6 _ rfl;obtain ⟨u7,-⟩:=C3.out.box.cell 7 _ rfl;obtain ⟨u8,-⟩:=C3.out.box.cell 8 _ rfl)
   | (with_reducible refine wpList_load_blk 30 _ 4 rfl (.tmp 6) rfl uC rfl iC wR.heap.size 0 rfl [.bool (y == t),.int .i64 (t - y),.int .i64 0,.int .i64 0] rfl C3.out.own.range ?_)
   | ((with_reducible refine at_st 30 (.tmp 2) (.tmp 58) rfl ?_);(try simp only [Act.put,List.setIfInBounds_toArray,List.set_cons_succ,List.set_cons_zero]);refine wpList_store_blk 30 4 rfl (.tmp 2) (.tmp 58) rfl iC (w.heap.size + 1) rfl [.bool (y == t),.int .i64 (t - y),.int .i64 0,.int .i64 0] rfl rfl (by simp [Value.oneCell']) _ C3.out.res rfl ?_;intro w9 k9 g9;have B9:=Lib.hid (below_grown1 C3.out.all g9 (by omega))))
  obtain ⟨z0,_⟩:=k9.cell 0 _ rfl
  obtain ⟨z1,_⟩:=k9.cell 1 _ rfl
  obtain ⟨z2,_⟩:=k9.cell 2 _ rfl
  obtain ⟨z3,_⟩:=k9.cell 3 _ rfl
  exact bodyPost_ret (v:=.agg #[.bool (y == t),.int .i64 (t - y),.int .i64 0,.int .i64 0]) (by simp [results,Try.results70,go_sem,z0,z1,z2,z3]) rfl ⟨by rw [EM.out];rfl,B9.out⟩
 have hmy : my = true:=by
  rw [H3.out]
  by_cases e : li = 2
  ·have : decide (ra < 4) = true:=decide_eq_true (by omega)
   simp [c3,c6,this]
  ·have : (li == 2) = false:=by simpa using e
   simp [c3,c6,this]
 subst hmy
 obtain rfl : mo = mr:=H5.out
 obtain rfl : le = minT mo (t + un):=H6.out
 by_cases e1 : li = 1
 ·have f1 : (li == 1) = true:=by simpa using e1
  have f2 : (li == 2) = false:=by simp;omega
  have hm : mo = minT (y + x) (t + p + t - y):=by rw [H4.out,if_pos e1]
  clear H3 H4 H5 H6 c7 e1
  have HM:=Lib.hid hm
  rw [← hm] at dm2 dn2
  clear hm
  go_wp2_with (first
    | (go_at_call 111;refine (KNX.out _ C5.out.rd).mono ?_;rintro e w3 ⟨rfl,hb3⟩;have C3:=Lib.hid (C5.out.below hb3);obtain ⟨u0,-⟩:=C3.out.box.cell 0 _ rfl;obtain ⟨u1,-⟩:=C3.out.box.cell 1 _ rfl;obtain ⟨u2,-⟩:=C3.out.box.cell 2 _ rfl;obtain ⟨u3,-⟩:=C3.out.box.cell 3 _ rfl;obtain ⟨u4,-⟩:=C3.out.box.cell 4 _ rfl;obtain ⟨u5,-⟩:=C3.out.box.cell 5 _ rfl;obtain ⟨u6,-⟩:=C3.out.box.cell 6 _ rfl;obtain ⟨u7,-⟩:=C3.out.box.cell 7 _ rfl;obtain ⟨u8,-⟩:=C3.out.box.cell 8 _ rfl)
    | ((with_reducible refine wpList_store_at 2 rfl (.tmp 62) (.tmp 61) rfl i1 wR.heap.size 3 rfl (.int .i64 (y + x)) rfl rfl _ _ C3.out.own ?_ ?_);(exact (by simp));intro w4 k5 g5;have C4 : Hid (Chs w wR.heap.size ⟨some ⟨b1,o1,none⟩,some ⟨b2,o2,none⟩,A3,A4,some ⟨b5,o5,none⟩,e1c,e2c,e3c,e4c,e5c⟩ ⟨st,bt,pd,fo,ac,(i : Int),un,ra,li⟩ [.bool (y == t),.int .i64 (t - y),.int .i64 0,.int .i64 (y + x)] w4):=Lib.hid (C3.out.set k5 g5);clear k5 g5;obtain ⟨p0,-⟩:=C4.out.box.cell 0 _ rfl;obtain ⟨p1,-⟩:=C4.out.box.cell 1 _ rfl;obtain ⟨p2,-⟩:=C4.out.box.cell 2 _ rfl;obtain ⟨p3,-⟩:=C4.out.box.cell 3 _ rfl;obtain ⟨p4,-⟩:=C4.out.box.cell 4 _ rfl;obtain ⟨p5,-⟩:=C4.out.box.cell 5 _ rfl;obtain ⟨p6,-⟩:=C4.out.box.cell 6 _ rfl;obtain ⟨p7,-⟩:=C4.out.box.cell 7 _ rfl;obtain ⟨p8,-⟩:=C4.out.box.cell 8 _ rfl;obtain ⟨px2,-⟩:=C4.out.own.cell 2 _ rfl;obtain ⟨px3,-⟩:=C4.out.own.cell 3 _ rfl))
  refine wp_region_W (last:=12) (k:=12) hmx rfl (fun HC0=>?_)
  refine wpAnyR_takeL (i:=0) (kw:=3) (v:=.pointer (some ⟨wR.heap.size,3,none⟩)) (fun _=>bl_refl _) (fun p q=>bl_trans p q) rfl rfl (by kernel_rfl) (by kernel_rfl) (by kernel_rfl) (by kernel_rfl) (fun _ _ _ h=>h) HC0 (Or.inl ⟨by kernel_rfl,fun W' hI=>?_⟩) (fun HC1=>?_)
  ·exact .inl (by go_simp)
  refine wpAnyR_takeL (i:=1) (kw:=2) (v:=.int .i64 (y + x)) (fun _=>bl_refl _) (fun p q=>bl_trans p q) rfl rfl (by kernel_rfl) (by kernel_rfl) (by kernel_rfl) (by kernel_rfl) (fun _ _ _ h=>h) HC1 (Or.inl ⟨by kernel_rfl,fun W' hI=>?_⟩) (fun HC2=>?_)
  ·have hv:=(C4.out.own).below hI
   obtain ⟨z3,_⟩:=hv.cell 3 _ rfl
   exact .inl (by go_simp)
  refine wpAnyR_takeL (i:=2) (kw:=5) (v:=.int .i64 t) (fun _=>bl_refl _) (fun p q=>bl_trans p q) rfl rfl (by kernel_rfl) (by kernel_rfl) (by kernel_rfl) (by kernel_rfl) (fun _ _ _ h=>h) HC2 (Or.inl ⟨by kernel_rfl,fun W' hI=>?_⟩) (fun HC3=>?_)
  ·exact .inl (by go_simp)
  refine wpAnyR_takeL (i:=3) (kw:=6) (v:=.agg #[.slice (some ⟨b1,o1,none⟩) st.length e1c,.slice (some ⟨b2,o2,none⟩) bt.length e2c,.slice A3 pd.length e3c,.slice A4 fo.length e4c,.slice (some ⟨b5,o5,none⟩) ac.length e5c,.int .i64 i,.int .i64 un,.int .i64 ra,.int .i64 li]) (fun _=>bl_refl _) (fun p q=>bl_trans p q) rfl rfl (by kernel_rfl) (by kernel_rfl) (by kernel_rfl) (by kernel_rfl) (fun _ _ _ h=>h) HC3 (Or.inl ⟨by kernel_rfl,fun W' hI=>?_⟩) (fun HC4=>?_)
  ·have hv:=(C4.out.box).below hI
   obtain ⟨z0,_⟩:=hv.cell 0 _ rfl
   obtain ⟨z1,_⟩:=hv.cell 1 _ rfl
   obtain ⟨z2,_⟩:=hv.cell 2 _ rfl
   obtain ⟨z3,_⟩:=hv.cell 3 _ rfl
   obtain ⟨z4,_⟩:=hv.cell 4 _ rfl
   obtain ⟨z5,_⟩:=hv.cell 5 _ rfl
   obtain ⟨z6,_⟩:=hv.cell 6 _ rfl
   obtain ⟨z7,_⟩:=hv.cell 7 _ rfl
   obtain ⟨z8,_⟩:=hv.cell 8 _ rfl
   exact .inl (by go_simp)
  refine wpAnyR_takeL (i:=4) (kw:=5) (v:=.int .i64 p) (fun _=>bl_refl _) (fun p q=>bl_trans p q) rfl rfl (by kernel_rfl) (by kernel_rfl) (by kernel_rfl) (by kernel_rfl) (fun _ _ _ h=>h) HC4 (Or.inl ⟨by kernel_rfl,fun W' hI=>?_⟩) (fun HC5=>?_)
  ·exact .inr ⟨81,#[.agg #[.slice (some ⟨b1,o1,none⟩) st.length e1c,.slice (some ⟨b2,o2,none⟩) bt.length e2c,.slice A3 pd.length e3c,.slice A4 fo.length e4c,.slice (some ⟨b5,o5,none⟩) ac.length e5c,.int .i64 i,.int .i64 un,.int .i64 ra,.int .i64 li]],by go_simp,KPX.out W' (C4.out.below hI).rd⟩
  refine wpAnyR_takeL (i:=5) (kw:=4) (v:=.int .i64 (t + p)) (fun _=>bl_refl _) (fun p q=>bl_trans p q) rfl rfl (by kernel_rfl) (by kernel_rfl) (by kernel_rfl) (by kernel_rfl) (fun _ _ _ h=>h) HC5 (Or.inl ⟨by kernel_rfl,fun W' hI=>?_⟩) (fun HC6=>?_)
  ·exact .inl (by go_simp;first | done | exact IntWalk.i64_in _ (by omega))
  refine wpAnyR_takeL (i:=6) (kw:=4) (v:=.int .i64 t) (fun _=>bl_refl _) (fun p q=>bl_trans p q) rfl rfl (by kernel_rfl) (by kernel_rfl) (by kernel_rfl) (by kernel_rfl) (fun _ _ _ h=>h) HC6 (Or.inl ⟨by kernel_rfl,fun W' hI=>?_⟩) (fun HC7=>?_)
  ·exact .inl (by go_simp)
  refine wpAnyR_takeL (i:=7) (kw:=3) (v:=.int .i64 ((t + p) + t)) (fun _=>bl_refl _) (fun p q=>bl_trans p q) rfl rfl (by kernel_rfl) (by kernel_rfl) (by kernel_rfl) (by kernel_rfl) (fun _ _ _ h=>h) HC7 (Or.inl ⟨by kernel_rfl,fun W' hI=>?_⟩) (fun HC8=>?_)
  ·exact .inl (by go_simp;first | done | exact IntWalk.i64_in _ (by omega))
  refine wpAnyR_takeL (i:=8) (kw:=3) (v:=.int .i64 y) (fun _=>bl_refl _) (fun p q=>bl_trans p q) rfl rfl (by kernel_rfl) (by kernel_rfl) (by kernel_rfl) (by kernel_rfl) (fun _ _ _ h=>h) HC8 (Or.inl ⟨by kernel_rfl,fun W' hI=>?_⟩) (fun HC9=>?_)
  ·exact .inl (by go_simp)
  refine wpAnyR_takeL (i:=9) (kw:=2) (v:=.int .i64 (((t + p) + t) - y)) (fun _=>bl_refl _) (fun p q=>bl_trans p q) rfl rfl (by kernel_rfl) (by kernel_rfl) (by kernel_rfl) (by kernel_rfl) (fun _ _ _ h=>h) HC9 (Or.inl ⟨by kernel_rfl,fun W' hI=>?_⟩) (fun HC10=>?_)
  ·exact .inl (by go_simp;first | done | exact IntWalk.i64_in _ (by omega))
  refine wpAnyR_takeL (i:=10) (kw:=1) (v:=.int .i64 mo) (fun _=>bl_refl _) (fun p q=>bl_trans p q) rfl rfl (by kernel_rfl) (by kernel_rfl) (by kernel_rfl) (by kernel_rfl) (fun _ _ _ h=>h) HC10 (Or.inl ⟨by kernel_rfl,fun W' hI=>?_⟩) (fun HC11=>?_)
  ·exact .inl (by go_simp)
  refine wpAnyR_takeL (i:=11) (kw:=1) (v:=.pointer (some ⟨wR.heap.size,3,none⟩)) (fun _=>bl_refl _) (fun p q=>bl_trans p q) rfl rfl (by kernel_rfl) (by kernel_rfl) (by kernel_rfl) (by kernel_rfl) (fun _ _ _ h=>h) HC11 (Or.inl ⟨by kernel_rfl,fun W' hI=>?_⟩) (fun HC12=>?_)
  ·exact .inl (by go_simp)
  refine wpAnyR_lastL (by kernel_rfl) (by kernel_rfl) rfl (by kernel_rfl) (fun wS hrR=>⟨bl_drewT hrR,?_⟩)
  intro K hK
  have BR:=Lib.hid (bl_drewT hrR)
  clear hrR
  have C4R:=Lib.hid (C4.out.below BR.out)
  try simp only [Act.put,List.setIfInBounds_toArray,List.set_cons_succ,List.set_cons_zero]
  refine wp_store_at 2 (.tmp 78) (.tmp 77) rfl i1 wR.heap.size 3 rfl (.int .i64 mo) rfl rfl _ _ C4R.out.own (by simp) (fun w6 k5 g5=>?_)
  refine hK _ _ ?_
  clear hK K
  have C6 : Hid (Chs w wR.heap.size ⟨some ⟨b1,o1,none⟩,some ⟨b2,o2,none⟩,A3,A4,some ⟨b5,o5,none⟩,e1c,e2c,e3c,e4c,e5c⟩ ⟨st,bt,pd,fo,ac,(i : Int),un,ra,li⟩ [.bool (y == t),.int .i64 (t - y),.int .i64 0,.int .i64 mo] w6):=Lib.hid (C4R.out.set k5 g5)
  clear k5 g5 C4 C4R
  have C61:=C6.out.box
  obtain ⟨r0,-⟩:=C61.cell 0 _ rfl
  obtain ⟨r1,-⟩:=C61.cell 1 _ rfl
  obtain ⟨r2,-⟩:=C61.cell 2 _ rfl
  obtain ⟨r3,-⟩:=C61.cell 3 _ rfl
  obtain ⟨r4,-⟩:=C61.cell 4 _ rfl
  obtain ⟨r5,-⟩:=C61.cell 5 _ rfl
  obtain ⟨r6,-⟩:=C61.cell 6 _ rfl
  obtain ⟨r7,-⟩:=C61.cell 7 _ rfl
  obtain ⟨r8,-⟩:=C61.cell 8 _ rfl
  obtain ⟨rx3,-⟩:=C6.out.own.cell 3 _ rfl
  go_wp2_with (first
    | ((with_reducible refine wpList_store_at 2 rfl (.tmp 96) (.tmp 95) rfl i1 wR.heap.size 2 rfl (.int .i64 (minT mo (t + un))) rfl rfl _ _ C6.out.own ?_ ?_);(exact (by simp));intro w7 k5 g5;have C7 : Hid (Chs w wR.heap.size ⟨some ⟨b1,o1,none⟩,some ⟨b2,o2,none⟩,A3,A4,some ⟨b5,o5,none⟩,e1c,e2c,e3c,e4c,e5c⟩ ⟨st,bt,pd,fo,ac,(i : Int),un,ra,li⟩ [.bool (y == t),.int .i64 (t - y),.int .i64 (minT mo (t + un)),.int .i64 mo] w7):=Lib.hid (C6.out.set k5 g5);clear k5 g5;obtain ⟨s0,-⟩:=C7.out.box.cell 0 _ rfl;obtain ⟨s1,-⟩:=C7.out.box.cell 1 _ rfl;obtain ⟨s2,-⟩:=C7.out.box.cell 2 _ rfl;obtain ⟨s3,-⟩:=C7.out.box.cell 3 _ rfl;obtain ⟨s4,-⟩:=C7.out.box.cell 4 _ rfl;obtain ⟨s5,-⟩:=C7.out.box.cell 5 _ rfl;obtain ⟨s6,-⟩:=C7.out.box.cell 6 _ rfl;obtain ⟨s7,-⟩:=C7.out.box.cell 7 _ rfl;obtain ⟨s8,-⟩:=C7.out.box.cell 8 _ rfl;obtain ⟨sx2,-⟩:=C7.out.own.cell 2 _ rfl;obtain ⟨sx3,-⟩:=C7.out.own.cell 3 _ rfl)
    | (with_reducible refine wpList_load_blk 30 _ 4 rfl (.tmp 6) rfl uC rfl iC wR.heap.size 0 rfl [.bool (y == t),.int .i64 (t - y),.int .i64 (minT mo (t + un)),.int .i64 mo] rfl C7.out.own.range ?_)
    | ((with_reducible refine at_st 30 (.tmp 2) (.tmp 97) rfl ?_);(try simp only [Act.put,List.setIfInBounds_toArray,List.set_cons_succ,List.set_cons_zero]);refine wpList_store_blk 30 4 rfl (.tmp 2) (.tmp 97) rfl iC (w.heap.size + 1) rfl [.bool (y == t),.int .i64 (t - y),.int .i64 (minT mo (t + un)),.int .i64 mo] rfl rfl (by simp [Value.oneCell']) _ C7.out.res rfl ?_;intro w9 k9 g9;have B9:=Lib.hid (below_grown1 C7.out.all g9 (by omega))))
  obtain ⟨z0,_⟩:=k9.cell 0 _ rfl
  obtain ⟨z1,_⟩:=k9.cell 1 _ rfl
  obtain ⟨z2,_⟩:=k9.cell 2 _ rfl
  obtain ⟨z3,_⟩:=k9.cell 3 _ rfl
  exact bodyPost_ret (v:=.agg #[.bool (y == t),.int .i64 (t - y),.int .i64 (minT mo (t + un)),.int .i64 mo]) (by simp [results,Try.results70,go_sem,z0,z1,z2,z3]) rfl ⟨by rw [EM.out];rfl,B9.out⟩
 have f1 : (li == 1) = false:=by simpa using e1
 by_cases e2 : li = 2
 ·have f2 : (li == 2) = true:=by simpa using e2
  have f3 : decide (4 ≤ ra) = false:=decide_eq_false (fun q=>c7 ⟨e2,q⟩)
  have hm : mo = minT (y + x) (t + un):=by rw [H4.out,if_neg e1,if_pos e2]
  clear H3 H4 H5 H6 c7 e1 e2
  subst hm
  go_wp2_with (first
    | (go_at_call 111;refine (KNX.out _ C5.out.rd).mono ?_;rintro e w3 ⟨rfl,hb3⟩;have C3:=Lib.hid (C5.out.below hb3);obtain ⟨u0,-⟩:=C3.out.box.cell 0 _ rfl;obtain ⟨u1,-⟩:=C3.out.box.cell 1 _ rfl;obtain ⟨u2,-⟩:=C3.out.box.cell 2 _ rfl;obtain ⟨u3,-⟩:=C3.out.box.cell 3 _ rfl;obtain ⟨u4,-⟩:=C3.out.box.cell 4 _ rfl;obtain ⟨u5,-⟩:=C3.out.box.cell 5 _ rfl;obtain ⟨u6,-⟩:=C3.out.box.cell 6 _ rfl;obtain ⟨u7,-⟩:=C3.out.box.cell 7 _ rfl;obtain ⟨u8,-⟩:=C3.out.box.cell 8 _ rfl)
    | ((with_reducible refine wpList_store_at 2 rfl (.tmp 62) (.tmp 61) rfl i1 wR.heap.size 3 rfl (.int .i64 (y + x)) rfl rfl _ _ C3.out.own ?_ ?_);(exact (by simp));intro w4 k5 g5;have C4 : Hid (Chs w wR.heap.size ⟨some ⟨b1,o1,none⟩,some ⟨b2,o2,none⟩,A3,A4,some ⟨b5,o5,none⟩,e1c,e2c,e3c,e4c,e5c⟩ ⟨st,bt,pd,fo,ac,(i : Int),un,ra,li⟩ [.bool (y == t),.int .i64 (t - y),.int .i64 0,.int .i64 (y + x)] w4):=Lib.hid (C3.out.set k5 g5);clear k5 g5;obtain ⟨p0,-⟩:=C4.out.box.cell 0 _ rfl;obtain ⟨p1,-⟩:=C4.out.box.cell 1 _ rfl;obtain ⟨p2,-⟩:=C4.out.box.cell 2 _ rfl;obtain ⟨p3,-⟩:=C4.out.box.cell 3 _ rfl;obtain ⟨p4,-⟩:=C4.out.box.cell 4 _ rfl;obtain ⟨p5,-⟩:=C4.out.box.cell 5 _ rfl;obtain ⟨p6,-⟩:=C4.out.box.cell 6 _ rfl;obtain ⟨p7,-⟩:=C4.out.box.cell 7 _ rfl;obtain ⟨p8,-⟩:=C4.out.box.cell 8 _ rfl;obtain ⟨px2,-⟩:=C4.out.own.cell 2 _ rfl;obtain ⟨px3,-⟩:=C4.out.own.cell 3 _ rfl)
    | ((with_reducible refine wpList_store_at 2 rfl (.tmp 88) (.tmp 87) rfl i1 wR.heap.size 3 rfl (.int .i64 (minT (y + x) (t + un))) rfl rfl _ _ C4.out.own ?_ ?_);(exact (by simp));intro w6 k5 g5;have C6 : Hid (Chs w wR.heap.size ⟨some ⟨b1,o1,none⟩,some ⟨b2,o2,none⟩,A3,A4,some ⟨b5,o5,none⟩,e1c,e2c,e3c,e4c,e5c⟩ ⟨st,bt,pd,fo,ac,(i : Int),un,ra,li⟩ [.bool (y == t),.int .i64 (t - y),.int .i64 0,.int .i64 (minT (y + x) (t + un))] w6):=Lib.hid (C4.out.set k5 g5);clear k5 g5;obtain ⟨r0,-⟩:=C6.out.box.cell 0 _ rfl;obtain ⟨r1,-⟩:=C6.out.box.cell 1 _ rfl;obtain ⟨r2,-⟩:=C6.out.box.cell 2 _ rfl;obtain ⟨r3,-⟩:=C6.out.box.cell 3 _ rfl;obtain ⟨r4,-⟩:=C6.out.box.cell 4 _ rfl;obtain ⟨r5,-⟩:=C6.out.box.cell 5 _ rfl;obtain ⟨r6,-⟩:=C6.out.box.cell 6 _ rfl;obtain ⟨r7,-⟩:=C6.out.box.cell 7 _ rfl;obtain ⟨r8,-⟩:=C6.out.box.cell 8 _ rfl;obtain ⟨rx2,-⟩:=C6.out.own.cell 2 _ rfl;obtain ⟨rx3,-⟩:=C6.out.own.cell 3 _ rfl)
    | ((with_reducible refine wpList_store_at 2 rfl (.tmp 96) (.tmp 95) rfl i1 wR.heap.size 2 rfl (.int .i64 (minT (y + x) (t + un))) rfl rfl _ _ C6.out.own ?_ ?_);(exact (by simp));intro w7 k5 g5;have C7 : Hid (Chs w wR.heap.size ⟨some ⟨b1,o1,none⟩,some ⟨b2,o2,none⟩,A3,A4,some ⟨b5,o5,none⟩,e1c,e2c,e3c,e4c,e5c⟩ ⟨st,bt,pd,fo,ac,(i : Int),un,ra,li⟩ [.bool (y == t),.int .i64 (t - y),.int .i64 (minT (y + x) (t + un)),.int .i64 (minT (y + x) (t + un))] w7):=Lib.hid (C6.out.set k5 g5);clear k5 g5;obtain ⟨s0,-⟩:=C7.out.box.cell 0 _ rfl;obtain ⟨s1,-⟩:=C7.out.box.cell 1 _ rfl;obtain ⟨s2,-⟩:=C7.out.box.cell 2 _ rfl;obtain ⟨s3,-⟩:=C7.out.box.cell 3 _ rfl;obtain ⟨s4,-⟩:=C7.out.box.cell 4 _ rfl;obtain ⟨s5,-⟩:=C7.out.box.cell 5 _ rfl;obtain ⟨s6,-⟩:=C7.out.box.cell 6 _ rfl;obtain ⟨s7,-⟩:=C7.out.box.cell 7 _ rfl;obtain ⟨s8,-⟩:=C7.out.box.cell 8 _ rfl;obtain ⟨sx2,-⟩:=C7.out.own.cell 2 _ rfl;obtain ⟨sx3,-⟩:=C7.out.own.cell 3 _ rfl)
    | (with_reducible refine wpList_load_blk 30 _ 4 rfl (.tmp 6) rfl uC rfl iC wR.heap.size 0 rfl [.bool (y == t),.int .i64 (t - y),.int .i64 (minT (y + x) (t + un)),.int .i64 (minT (y + x) (t + un))] rfl C7.out.own.range ?_)
    | ((with_reducible refine at_st 30 (.tmp 2) (.tmp 97) rfl ?_);(try simp only [Act.put,List.setIfInBounds_toArray,List.set_cons_succ,List.set_cons_zero]);refine wpList_store_blk 30 4 rfl (.tmp 2) (.tmp 97) rfl iC (w.heap.size + 1) rfl [.bool (y == t),.int .i64 (t - y),.int .i64 (minT (y + x) (t + un)),.int .i64 (minT (y + x) (t + un))] rfl rfl (by simp [Value.oneCell']) _ C7.out.res rfl ?_;intro w9 k9 g9;have B9:=Lib.hid (below_grown1 C7.out.all g9 (by omega))))
  obtain ⟨z0,_⟩:=k9.cell 0 _ rfl
  obtain ⟨z1,_⟩:=k9.cell 1 _ rfl
  obtain ⟨z2,_⟩:=k9.cell 2 _ rfl
  obtain ⟨z3,_⟩:=k9.cell 3 _ rfl
  exact bodyPost_ret (v:=.agg #[.bool (y == t),.int .i64 (t - y),.int .i64 (minT (y + x) (t + un)),.int .i64 (minT (y + x) (t + un))]) (by simp [results,Try.results70,go_sem,z0,z1,z2,z3]) rfl ⟨by rw [EM.out,minT_idem];rfl,B9.out⟩
 ·have f2 : (li == 2) = false:=by simpa using e2
  have hm : mo = y + x:=by rw [H4.out,if_neg e1,if_neg e2]
  clear H3 H4 H5 H6 c7 e1 e2
  subst hm
  go_wp2_with (first
    | (go_at_call 111;refine (KNX.out _ C5.out.rd).mono ?_;rintro e w3 ⟨rfl,hb3⟩;have C3:=Lib.hid (C5.out.below hb3);obtain ⟨u0,-⟩:=C3.out.box.cell 0 _ rfl;obtain ⟨u1,-⟩:=C3.out.box.cell 1 _ rfl;obtain ⟨u2,-⟩:=C3.out.box.cell 2 _ rfl;obtain ⟨u3,-⟩:=C3.out.box.cell 3 _ rfl;obtain ⟨u4,-⟩:=C3.out.box.cell 4 _ rfl;obtain ⟨u5,-⟩:=C3.out.box.cell 5 _ rfl;obtain ⟨u6,-⟩:=C3.out.box.cell 6 _ rfl;obtain ⟨u7,-⟩:=C3.out.box.cell 7 _ rfl;obtain ⟨u8,-⟩:=C3.out.box.cell 8 _ rfl)
    | ((with_reducible refine wpList_store_at 2 rfl (.tmp 62) (.tmp 61) rfl i1 wR.heap.size 3 rfl (.int .i64 (y + x)) rfl rfl _ _ C3.out.own ?_ ?_);(exact (by simp));intro w4 k5 g5;have C4 : Hid (Chs w wR.heap.size ⟨some ⟨b1,o1,none⟩,some ⟨b2,o2,none⟩,A3,A4,some ⟨b5,o5,none⟩,e1c,e2c,e3c,e4c,e5c⟩ ⟨st,bt,pd,fo,ac,(i : Int),un,ra,li⟩ [.bool (y == t),.int .i64 (t - y),.int .i64 0,.int .i64 (y + x)] w4):=Lib.hid (C3.out.set k5 g5);clear k5 g5;obtain ⟨p0,-⟩:=C4.out.box.cell 0 _ rfl;obtain ⟨p1,-⟩:=C4.out.box.cell 1 _ rfl;obtain ⟨p2,-⟩:=C4.out.box.cell 2 _ rfl;obtain ⟨p3,-⟩:=C4.out.box.cell 3 _ rfl;obtain ⟨p4,-⟩:=C4.out.box.cell 4 _ rfl;obtain ⟨p5,-⟩:=C4.out.box.cell 5 _ rfl;obtain ⟨p6,-⟩:=C4.out.box.cell 6 _ rfl;obtain ⟨p7,-⟩:=C4.out.box.cell 7 _ rfl;obtain ⟨p8,-⟩:=C4.out.box.cell 8 _ rfl;obtain ⟨px2,-⟩:=C4.out.own.cell 2 _ rfl;obtain ⟨px3,-⟩:=C4.out.own.cell 3 _ rfl)
    | ((with_reducible refine wpList_store_at 2 rfl (.tmp 96) (.tmp 95) rfl i1 wR.heap.size 2 rfl (.int .i64 (minT (y + x) (t + un))) rfl rfl _ _ C4.out.own ?_ ?_);(exact (by simp));intro w7 k5 g5;have C7 : Hid (Chs w wR.heap.size ⟨some ⟨b1,o1,none⟩,some ⟨b2,o2,none⟩,A3,A4,some ⟨b5,o5,none⟩,e1c,e2c,e3c,e4c,e5c⟩ ⟨st,bt,pd,fo,ac,(i : Int),un,ra,li⟩ [.bool (y == t),.int .i64 (t - y),.int .i64 (minT (y + x) (t + un)),.int .i64 (y + x)] w7):=Lib.hid (C4.out.set k5 g5);clear k5 g5;obtain ⟨s0,-⟩:=C7.out.box.cell 0 _ rfl;obtain ⟨s1,-⟩:=C7.out.box.cell 1 _ rfl;obtain ⟨s2,-⟩:=C7.out.box.cell 2 _ rfl;obtain ⟨s3,-⟩:=C7.out.box.cell 3 _ rfl;obtain ⟨s4,-⟩:=C7.out.box.cell 4 _ rfl;obtain ⟨s5,-⟩:=C7.out.box.cell 5 _ rfl;obtain ⟨s6,-⟩:=C7.out.box.cell 6 _ rfl;obtain ⟨s7,-⟩:=C7.out.box.cell 7 _ rfl;obtain ⟨s8,-⟩:=C7.out.box.cell 8 _ rfl;obtain ⟨sx2,-⟩:=C7.out.own.cell 2 _ rfl;obtain ⟨sx3,-⟩:=C7.out.own.cell 3 _ rfl)
    | (with_reducible refine wpList_load_blk 30 _ 4 rfl (.tmp 6) rfl uC rfl iC wR.heap.size 0 rfl [.bool (y == t),.int .i64 (t - y),.int .i64 (minT (y + x) (t + un)),.int .i64 (y + x)] rfl C7.out.own.range ?_)
    | ((with_reducible refine at_st 30 (.tmp 2) (.tmp 97) rfl ?_);(try simp only [Act.put,List.setIfInBounds_toArray,List.set_cons_succ,List.set_cons_zero]);refine wpList_store_blk 30 4 rfl (.tmp 2) (.tmp 97) rfl iC (w.heap.size + 1) rfl [.bool (y == t),.int .i64 (t - y),.int .i64 (minT (y + x) (t + un)),.int .i64 (y + x)] rfl rfl (by simp [Value.oneCell']) _ C7.out.res rfl ?_;intro w9 k9 g9;have B9:=Lib.hid (below_grown1 C7.out.all g9 (by omega))))
  obtain ⟨z0,_⟩:=k9.cell 0 _ rfl
  obtain ⟨z1,_⟩:=k9.cell 1 _ rfl
  obtain ⟨z2,_⟩:=k9.cell 2 _ rfl
  obtain ⟨z3,_⟩:=k9.cell 3 _ rfl
  exact bodyPost_ret (v:=.agg #[.bool (y == t),.int .i64 (t - y),.int .i64 (minT (y + x) (t + un)),.int .i64 (y + x)]) (by simp [results,Try.results70,go_sem,z0,z1,z2,z3]) rfl ⟨by rw [EM.out];rfl,B9.out⟩
end Go.Proofs.Ytnllndcajdofjaa
