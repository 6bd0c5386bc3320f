/-
 The model: which rounds are valid.
-/
import Derived.Test.YtnllndcajdofjaaQbBetFG
namespace Go.Proofs.Ytnllndcajdofjaa
open Go.RowKit
set_option linter.unusedVariables false

structure Sz (b : Bt) : Prop where
 z1 : b.st.length ≤ 4000000
 z2 : b.bt.length ≤ 4000000
 z3 : b.pd.length ≤ 4000000
def v1B (b : Bt) : Bool:=sumsB b.st && ((b.st.length : Int) == (b.st.length : Int))
def v2B (b : Bt) : Bool:=sumsB b.bt && ((b.bt.length : Int) == (b.st.length : Int))
def v3B (b : Bt) : Bool:=sumsB b.pd && ((b.pd.length : Int) == (b.st.length : Int))
theorem ok_v1 {b : Bt} (k : Ok b) : v1B b = true:=by unfold v1B;rw [sumsB_iff.2 k.s1];simp
theorem ok_v2 {b : Bt} (k : Ok b) : v2B b = true:=by unfold v2B;rw [sumsB_iff.2 k.s2,k.l2];simp
theorem ok_v3 {b : Bt} (k : Ok b) : v3B b = true:=by unfold v3B;rw [sumsB_iff.2 k.s3,k.l3];simp
theorem of_v1 {b : Bt} (h : v1B b = true) : inC b.st:=by unfold v1B at h;rw [Bool.and_eq_true] at h;exact sumsB_iff.1 h.1
theorem of_v2 {b : Bt} (h : v2B b = true) : inC b.bt ∧ b.bt.length = b.st.length:=by
 unfold v2B at h;rw [Bool.and_eq_true] at h;exact ⟨sumsB_iff.1 h.1,by have:=h.2;simp at this;omega⟩
theorem of_v3 {b : Bt} (h : v3B b = true) : inC b.pd ∧ b.pd.length = b.st.length:=by
 unfold v3B at h;rw [Bool.and_eq_true] at h;exact ⟨sumsB_iff.1 h.1,by have:=h.2;simp at this;omega⟩
set_option maxRecDepth 100000 in
set_option maxHeartbeats 8000000 in
theorem specIsBetting_any (L : At5) (b : Bt) (w : World) (h : Rd5 w L b) (z : Sz b) :
  Calls Try.prog 18 #[bV L b] w (Fresh (.bool (okB b)) w):=by
 have BT:=Lib.hid (btAt_new h)
 have B:=Lib.hid (bl_box (w:=w) (L:=L) (b:=b))
 have hmx : Try.prog.follows .mixedOrders = true:=by kernel_rfl
 have K0:=Lib.hid (fun W=>specIn_any (b.st.length : Int) 2 6 W)
 have K1 : Hid (Calls Try.prog 80 #[.slice L.a1 b.st.length L.c1,.int .i64 b.st.length] (w.alloc (.cells (btL L b).toArray 27)) (Same (.bool (v1B b)) _)):=Lib.hid (l10Chips_any L.a1 L.c1 b.st b.st.length _ BT.out.rd.r1 z.z1)
 have K2 : Hid (Calls Try.prog 80 #[.slice L.a2 b.bt.length L.c2,.int .i64 b.st.length] (w.alloc (.cells (btL L b).toArray 27)) (Same (.bool (v2B b)) _)):=Lib.hid (l10Chips_any L.a2 L.c2 b.bt b.st.length _ BT.out.rd.r2 z.z2)
 have K3 : Hid (Calls Try.prog 80 #[.slice L.a3 b.pd.length L.c3,.int .i64 b.st.length] (w.alloc (.cells (btL L b).toArray 27)) (Same (.bool (v3B b)) _)):=Lib.hid (l10Chips_any L.a3 L.c3 b.pd b.st.length _ BT.out.rd.r3 z.z3)
 have KT:=Lib.hid (fun W=>specIn_any b.tu 0 ((b.st.length : Int) - 1) W)
 have KU:=Lib.hid (fun W=>specIn_any b.un 1 100000 W)
 have KR:=Lib.hid (fun W=>specIn_any b.ra 0 4 W)
 have KL:=Lib.hid (fun W=>specIn_any b.li 0 2 W)
 have BT1:=BT.out
 obtain ⟨q0,_⟩:=BT1.blk.cell 0 _ rfl
 obtain ⟨q1,_⟩:=BT1.blk.cell 1 _ rfl
 obtain ⟨q2,_⟩:=BT1.blk.cell 2 _ rfl
 obtain ⟨q3,_⟩:=BT1.blk.cell 3 _ rfl
 obtain ⟨q4,_⟩:=BT1.blk.cell 4 _ rfl
 obtain ⟨q5,_⟩:=BT1.blk.cell 5 _ rfl
 obtain ⟨q6,_⟩:=BT1.blk.cell 6 _ rfl
 obtain ⟨q7,_⟩:=BT1.blk.cell 7 _ rfl
 obtain ⟨q8,_⟩:=BT1.blk.cell 8 _ rfl
 clear h BT1 z
 unfold bV
 by_cases c0 : 2 ≤ (b.st.length : Int) ∧ (b.st.length : Int) ≤ 6
 rotate_left
 ·have HV : Hid (okB b = false):=Lib.hid (ok_no (fun k=>by have:=k.n2;have:=k.n6;omega))
  have e0 : inB (b.st.length : Int) 2 6 = false:=decide_eq_false c0
  rw [e0] at K0
  go_enter Try.func18,Try.ntmps18
  go_wp2_with (first
   | (go_at_call 79;(with_reducible refine (K0.out _).mono ?_);rintro e wn ⟨rfl,rfl⟩))
  go_ret
  exact ⟨ret_bool HV.out.symm,B.out⟩
 rw [inB_yes _ _ _ c0.1 c0.2] at K0
 rcases hv1 : v1B b with _ | _
 ·have HV : Hid (okB b = false):=Lib.hid (ok_no (fun k=>by rw [ok_v1 k] at hv1;cases hv1))
  rw [hv1] at K1
  go_enter Try.func18,Try.ntmps18
  go_wp2_with (first
   | (go_at_call 79;(with_reducible refine (K0.out _).mono ?_);rintro e wn ⟨rfl,rfl⟩)
   | (go_at_call 80;(with_reducible refine (K1.out).mono ?_);rintro e wn ⟨rfl,rfl⟩))
  go_ret
  exact ⟨ret_bool HV.out.symm,B.out⟩
 rw [hv1] at K1
 rcases hv2 : v2B b with _ | _
 ·have HV : Hid (okB b = false):=Lib.hid (ok_no (fun k=>by rw [ok_v2 k] at hv2;cases hv2))
  rw [hv2] at K2
  go_enter Try.func18,Try.ntmps18
  go_wp2_with (first
   | (go_at_call 79;(with_reducible refine (K0.out _).mono ?_);rintro e wn ⟨rfl,rfl⟩)
   | (go_at_call 80;(with_reducible refine (K1.out).mono ?_);rintro e wn ⟨rfl,rfl⟩)
   | (go_at_call 80;(with_reducible refine (K2.out).mono ?_);rintro e wn ⟨rfl,rfl⟩))
  go_ret
  exact ⟨ret_bool HV.out.symm,B.out⟩
 rw [hv2] at K2
 rcases hv3 : v3B b with _ | _
 ·have HV : Hid (okB b = false):=Lib.hid (ok_no (fun k=>by rw [ok_v3 k] at hv3;cases hv3))
  rw [hv3] at K3
  go_enter Try.func18,Try.ntmps18
  go_wp2_with (first
   | (go_at_call 79;(with_reducible refine (K0.out _).mono ?_);rintro e wn ⟨rfl,rfl⟩)
   | (go_at_call 80;(with_reducible refine (K1.out).mono ?_);rintro e wn ⟨rfl,rfl⟩)
   | (go_at_call 80;(with_reducible refine (K2.out).mono ?_);rintro e wn ⟨rfl,rfl⟩)
   | (go_at_call 80;(with_reducible refine (K3.out).mono ?_);rintro e wn ⟨rfl,rfl⟩))
  go_ret
  exact ⟨ret_bool HV.out.symm,B.out⟩
 rw [hv3] at K3
 by_cases c4 : b.fo.length = b.st.length
 rotate_left
 ·have HV : Hid (okB b = false):=Lib.hid (ok_no (fun k=>c4 k.l4))
  have d4 : ((b.fo.length : Int) != (b.st.length : Int)) = true:=by simp;omega
  go_enter Try.func18,Try.ntmps18
  go_wp2_with (first
   | (go_at_call 79;(with_reducible refine (K0.out _).mono ?_);rintro e wn ⟨rfl,rfl⟩)
   | (go_at_call 80;(with_reducible refine (K1.out).mono ?_);rintro e wn ⟨rfl,rfl⟩)
   | (go_at_call 80;(with_reducible refine (K2.out).mono ?_);rintro e wn ⟨rfl,rfl⟩)
   | (go_at_call 80;(with_reducible refine (K3.out).mono ?_);rintro e wn ⟨rfl,rfl⟩))
  go_ret
  exact ⟨ret_bool HV.out.symm,B.out⟩
 have d4 : ((b.fo.length : Int) != (b.st.length : Int)) = false:=by simp;omega
 have c4':=Lib.hid c4
 clear c4
 by_cases c5 : b.ac.length = b.st.length
 rotate_left
 ·have HV : Hid (okB b = false):=Lib.hid (ok_no (fun k=>c5 k.l5))
  have d5 : ((b.ac.length : Int) != (b.st.length : Int)) = true:=by simp;omega
  go_enter Try.func18,Try.ntmps18
  go_wp2_with (first
   | (go_at_call 79;(with_reducible refine (K0.out _).mono ?_);rintro e wn ⟨rfl,rfl⟩)
   | (go_at_call 80;(with_reducible refine (K1.out).mono ?_);rintro e wn ⟨rfl,rfl⟩)
   | (go_at_call 80;(with_reducible refine (K2.out).mono ?_);rintro e wn ⟨rfl,rfl⟩)
   | (go_at_call 80;(with_reducible refine (K3.out).mono ?_);rintro e wn ⟨rfl,rfl⟩))
  go_ret
  exact ⟨ret_bool HV.out.symm,B.out⟩
 have d5 : ((b.ac.length : Int) != (b.st.length : Int)) = false:=by simp;omega
 have c5':=Lib.hid c5
 clear c5
 obtain ⟨s2,l2⟩:=of_v2 hv2
 obtain ⟨s3,l3⟩:=of_v3 hv3
 have s1:=of_v1 hv1
 have KP:=Lib.hid (fun (W : World) (hW : Rd5 W L b)=>l10Pot_any L b W hW (by omega) (by omega) s2 s3)
 have KS:=Lib.hid (fun (W : World) (hW : Rd5 W L b)=>l01SumC_any L.a1 L.c1 b.st W hW.r1 (by omega) s1)
 have u1:=sumT_bdC b.st s1 _ (Nat.le_refl _)
 have u2 : 0 ≤ potI b ∧ potI b ≤ 10000000:=by
  have:=sumT_bdC b.bt s2 _ (Nat.le_refl _)
  have:=sumT_bdC b.pd s3 _ (Nat.le_refl _)
  unfold potI;omega
 have HAL : Hid (allI b = sumT b.st b.st.length + potI b):=Lib.hid rfl
 have HOK : Hid (liveK b b.st.length = true → potI b + sumT b.st b.st.length ≤ 600000 → inB b.tu 0 ((b.st.length : Int) - 1) = true → inB b.un 1 100000 = true → inB b.ra 0 4 = true → inB b.li 0 2 = true → okB b = true):=Lib.hid (fun g1 g2 g3 g4 g5 g6=>by
  have g3 : 0 ≤ b.tu ∧ b.tu ≤ (b.st.length : Int) - 1:=by unfold inB at g3;exact of_decide_eq_true g3
  have g4 : 1 ≤ b.un ∧ b.un ≤ 100000:=by unfold inB at g4;exact of_decide_eq_true g4
  have g5 : 0 ≤ b.ra ∧ b.ra ≤ 4:=by unfold inB at g5;exact of_decide_eq_true g5
  have g6 : 0 ≤ b.li ∧ b.li ≤ 2:=by unfold inB at g6;exact of_decide_eq_true g6
  exact ok_yes ⟨by omega,by omega,g3.1,by omega,l2,l3,c4'.out,c5'.out,(liveK_iff b _).1 g1,s1,s2,s3,by rw [HAL.out];omega,g4.1,g4.2,g5.1,g5.2,g6.1,g6.2⟩)
 have HNO : Hid (okB b = true → liveK b b.st.length = true ∧ potI b + sumT b.st b.st.length ≤ 600000 ∧ inB b.tu 0 ((b.st.length : Int) - 1) = true ∧ inB b.un 1 100000 = true ∧ inB b.ra 0 4 = true ∧ inB b.li 0 2 = true):=Lib.hid (fun q=>by
  have k:=ok_of q
  have:=k.t1
  exact ⟨(liveK_iff b _).2 k.live,by have:=k.sum;rw [HAL.out] at this;omega,inB_yes _ _ _ k.t0 (by omega),inB_yes _ _ _ k.u0 k.u1,inB_yes _ _ _ k.r0 k.r1,inB_yes _ _ _ k.i0 k.i1⟩)
 clear hv1 hv2 hv3 c5' s1 s2 s3 l2 l3 HAL
 generalize okB b = ok at *
 generalize potI b = p at *
 generalize sumT b.st b.st.length = x1 at *
 generalize inB b.tu 0 ((b.st.length : Int) - 1) = r1 at *
 generalize inB b.un 1 100000 = r2 at *
 generalize inB b.ra 0 4 = r3 at *
 generalize inB b.li 0 2 = r4 at *
 have n6 : b.st.length ≤ 6:=by omega
 clear c0
 go_enter Try.func18,Try.ntmps18
 go_wp2_with (first
  | (go_at_call 79;(with_reducible refine (K0.out _).mono ?_);rintro e wn ⟨rfl,rfl⟩)
  | (go_at_call 80;(with_reducible refine (K1.out).mono ?_);rintro e wn ⟨rfl,rfl⟩)
  | (go_at_call 80;(with_reducible refine (K2.out).mono ?_);rintro e wn ⟨rfl,rfl⟩)
  | (go_at_call 80;(with_reducible refine (K3.out).mono ?_);rintro e wn ⟨rfl,rfl⟩))
 go_loop [4,5] (fun v i=>∃ k : Nat,k ≤ b.st.length ∧ i = .int .i64 k ∧ v = .bool (liveK b k)) (fun _ i=>b.st.length - (intOf i).toNat)
 case atStart=>exact ⟨0,Nat.zero_le _,rfl,rfl⟩
 case round =>
  obtain ⟨k,hk,rfl,rfl⟩:=hrel
  by_cases hlt : k < b.st.length
  ·have hlt' : (k : Int) < b.st.length:=by omega
   have hlt4 : (k : Int) < b.fo.length:=by have:=c4'.out;omega
   obtain ⟨b4,o4,e4,hc4⟩:=BT.out.rd.r4.at_0 k (by omega)
   rw [e4] at q3
   clear e4
   have HS : Hid (liveK b (k + 1) = (liveK b k || !nthB b.fo k)):=Lib.hid rfl
   generalize liveK b k = x at *
   generalize nthB b.fo k = y at *
   rcases x with _ | _
   ·rcases y with _ | _
    all_goals
     go_wp2_with fail
     go_round
     case rel=>exact ⟨k + 1,by omega,by go_num,by rw [HS.out];rfl⟩
     case measure=>simp [intOf];omega
   ·go_wp2_with fail
    go_round
    case rel=>exact ⟨k + 1,by omega,by go_num,by rw [HS.out];rfl⟩
    case measure=>simp [intOf];omega
  ·obtain rfl : k = b.st.length:=by omega
   generalize liveK b b.st.length = x at *
   clear hlt hk
   go_wp2_with fail
   rcases x with _ | _
   ·have HF : Hid (ok = false):=Lib.hid (by
     rcases ok with _ | _
     ·rfl
     ·have g:=HNO.out rfl;simp at g)
    refine wp_region_W (last:=32) (k:=32) hmx rfl (fun HC0=>?_)
    refine wpAnyR_takeL (i:=0) (kw:=11) (v:=.bool false) (fun _=>bl_refl _) (fun p q=>bl_trans p q) rfl rfl (by kernel_rfl) (by kernel_rfl) (by kernel_rfl) (by kernel_rfl) (fun _ _ _ h=>h) HC0 (Or.inl ⟨by kernel_rfl,fun W' hI=>?_⟩) (fun HC1=>?_)
    ·exact .inl (by go_simp)
    refine wpAnyR_takeL (i:=1) (kw:=10) (v:=.bool false) (fun _=>bl_refl _) (fun p q=>bl_trans p q) rfl rfl (by kernel_rfl) (by kernel_rfl) (by kernel_rfl) (by kernel_rfl) (fun _ _ _ h=>h) HC1 (Or.inl ⟨by kernel_rfl,fun W' hI=>?_⟩) (fun HC2=>?_)
    ·exact .inl (by go_simp)
    refine wpAnyR_takeL (i:=2) (kw:=13) (v:=undef) (fun _=>bl_refl _) (fun p q=>bl_trans p q) rfl rfl (by kernel_rfl) (by kernel_rfl) (by kernel_rfl) (by kernel_rfl) (fun _ _ _ h=>h) HC2 (Or.inr ⟨by kernel_rfl,rfl⟩) (fun HC3=>?_)
    refine wpAnyR_takeL (i:=3) (kw:=12) (v:=undef) (fun _=>bl_refl _) (fun p q=>bl_trans p q) rfl rfl (by kernel_rfl) (by kernel_rfl) (by kernel_rfl) (by kernel_rfl) (fun _ _ _ h=>h) HC3 (Or.inr ⟨by kernel_rfl,rfl⟩) (fun HC4=>?_)
    refine wpAnyR_takeL (i:=4) (kw:=14) (v:=undef) (fun _=>bl_refl _) (fun p q=>bl_trans p q) rfl rfl (by kernel_rfl) (by kernel_rfl) (by kernel_rfl) (by kernel_rfl) (fun _ _ _ h=>h) HC4 (Or.inr ⟨by kernel_rfl,rfl⟩) (fun HC5=>?_)
    refine wpAnyR_takeL (i:=5) (kw:=13) (v:=undef) (fun _=>bl_refl _) (fun p q=>bl_trans p q) rfl rfl (by kernel_rfl) (by kernel_rfl) (by kernel_rfl) (by kernel_rfl) (fun _ _ _ h=>h) HC5 (Or.inr ⟨by kernel_rfl,rfl⟩) (fun HC6=>?_)
    refine wpAnyR_takeL (i:=6) (kw:=12) (v:=undef) (fun _=>bl_refl _) (fun p q=>bl_trans p q) rfl rfl (by kernel_rfl) (by kernel_rfl) (by kernel_rfl) (by kernel_rfl) (fun _ _ _ h=>h) HC6 (Or.inr ⟨by kernel_rfl,rfl⟩) (fun HC7=>?_)
    refine wpAnyR_takeL (i:=7) (kw:=11) (v:=undef) (fun _=>bl_refl _) (fun p q=>bl_trans p q) rfl rfl (by kernel_rfl) (by kernel_rfl) (by kernel_rfl) (by kernel_rfl) (fun _ _ _ h=>h) HC7 (Or.inr ⟨by kernel_rfl,rfl⟩) (fun HC8=>?_)
    refine wpAnyR_takeL (i:=8) (kw:=10) (v:=undef) (fun _=>bl_refl _) (fun p q=>bl_trans p q) rfl rfl (by kernel_rfl) (by kernel_rfl) (by kernel_rfl) (by kernel_rfl) (fun _ _ _ h=>h) HC8 (Or.inr ⟨by kernel_rfl,rfl⟩) (fun HC9=>?_)
    refine wpAnyR_takeL (i:=9) (kw:=9) (v:=.bool false) (fun _=>bl_refl _) (fun p q=>bl_trans p q) rfl rfl (by kernel_rfl) (by kernel_rfl) (by kernel_rfl) (by kernel_rfl) (fun _ _ _ h=>h) HC9 (Or.inl ⟨by kernel_rfl,fun W' hI=>?_⟩) (fun HC10=>?_)
    ·exact .inl (by go_simp)
    refine wpAnyR_takeL (i:=10) (kw:=8) (v:=.bool false) (fun _=>bl_refl _) (fun p q=>bl_trans p q) rfl rfl (by kernel_rfl) (by kernel_rfl) (by kernel_rfl) (by kernel_rfl) (fun _ _ _ h=>h) HC10 (Or.inl ⟨by kernel_rfl,fun W' hI=>?_⟩) (fun HC11=>?_)
    ·exact .inl (by go_simp)
    refine wpAnyR_takeL (i:=11) (kw:=10) (v:=undef) (fun _=>bl_refl _) (fun p q=>bl_trans p q) rfl rfl (by kernel_rfl) (by kernel_rfl) (by kernel_rfl) (by kernel_rfl) (fun _ _ _ h=>h) HC11 (Or.inr ⟨by kernel_rfl,rfl⟩) (fun HC12=>?_)
    refine wpAnyR_takeL (i:=12) (kw:=9) (v:=undef) (fun _=>bl_refl _) (fun p q=>bl_trans p q) rfl rfl (by kernel_rfl) (by kernel_rfl) (by kernel_rfl) (by kernel_rfl) (fun _ _ _ h=>h) HC12 (Or.inr ⟨by kernel_rfl,rfl⟩) (fun HC13=>?_)
    refine wpAnyR_takeL (i:=13) (kw:=10) (v:=undef) (fun _=>bl_refl _) (fun p q=>bl_trans p q) rfl rfl (by kernel_rfl) (by kernel_rfl) (by kernel_rfl) (by kernel_rfl) (fun _ _ _ h=>h) HC13 (Or.inr ⟨by kernel_rfl,rfl⟩) (fun HC14=>?_)
    refine wpAnyR_takeL (i:=14) (kw:=9) (v:=undef) (fun _=>bl_refl _) (fun p q=>bl_trans p q) rfl rfl (by kernel_rfl) (by kernel_rfl) (by kernel_rfl) (by kernel_rfl) (fun _ _ _ h=>h) HC14 (Or.inr ⟨by kernel_rfl,rfl⟩) (fun HC15=>?_)
    refine wpAnyR_takeL (i:=15) (kw:=8) (v:=undef) (fun _=>bl_refl _) (fun p q=>bl_trans p q) rfl rfl (by kernel_rfl) (by kernel_rfl) (by kernel_rfl) (by kernel_rfl) (fun _ _ _ h=>h) HC15 (Or.inr ⟨by kernel_rfl,rfl⟩) (fun HC16=>?_)
    refine wpAnyR_takeL (i:=16) (kw:=7) (v:=.bool false) (fun _=>bl_refl _) (fun p q=>bl_trans p q) rfl rfl (by kernel_rfl) (by kernel_rfl) (by kernel_rfl) (by kernel_rfl) (fun _ _ _ h=>h) HC16 (Or.inl ⟨by kernel_rfl,fun W' hI=>?_⟩) (fun HC17=>?_)
    ·exact .inl (by go_simp)
    refine wpAnyR_takeL (i:=17) (kw:=6) (v:=.bool false) (fun _=>bl_refl _) (fun p q=>bl_trans p q) rfl rfl (by kernel_rfl) (by kernel_rfl) (by kernel_rfl) (by kernel_rfl) (fun _ _ _ h=>h) HC17 (Or.inl ⟨by kernel_rfl,fun W' hI=>?_⟩) (fun HC18=>?_)
    ·exact .inl (by go_simp)
    refine wpAnyR_takeL (i:=18) (kw:=8) (v:=undef) (fun _=>bl_refl _) (fun p q=>bl_trans p q) rfl rfl (by kernel_rfl) (by kernel_rfl) (by kernel_rfl) (by kernel_rfl) (fun _ _ _ h=>h) HC18 (Or.inr ⟨by kernel_rfl,rfl⟩) (fun HC19=>?_)
    refine wpAnyR_takeL (i:=19) (kw:=7) (v:=undef) (fun _=>bl_refl _) (fun p q=>bl_trans p q) rfl rfl (by kernel_rfl) (by kernel_rfl) (by kernel_rfl) (by kernel_rfl) (fun _ _ _ h=>h) HC19 (Or.inr ⟨by kernel_rfl,rfl⟩) (fun HC20=>?_)
    refine wpAnyR_takeL (i:=20) (kw:=6) (v:=undef) (fun _=>bl_refl _) (fun p q=>bl_trans p q) rfl rfl (by kernel_rfl) (by kernel_rfl) (by kernel_rfl) (by kernel_rfl) (fun _ _ _ h=>h) HC20 (Or.inr ⟨by kernel_rfl,rfl⟩) (fun HC21=>?_)
    refine wpAnyR_takeL (i:=21) (kw:=5) (v:=.bool false) (fun _=>bl_refl _) (fun p q=>bl_trans p q) rfl rfl (by kernel_rfl) (by kernel_rfl) (by kernel_rfl) (by kernel_rfl) (fun _ _ _ h=>h) HC21 (Or.inl ⟨by kernel_rfl,fun W' hI=>?_⟩) (fun HC22=>?_)
    ·exact .inl (by go_simp)
    refine wpAnyR_takeL (i:=22) (kw:=4) (v:=.bool false) (fun _=>bl_refl _) (fun p q=>bl_trans p q) rfl rfl (by kernel_rfl) (by kernel_rfl) (by kernel_rfl) (by kernel_rfl) (fun _ _ _ h=>h) HC22 (Or.inl ⟨by kernel_rfl,fun W' hI=>?_⟩) (fun HC23=>?_)
    ·exact .inl (by go_simp)
    refine wpAnyR_takeL (i:=23) (kw:=6) (v:=undef) (fun _=>bl_refl _) (fun p q=>bl_trans p q) rfl rfl (by kernel_rfl) (by kernel_rfl) (by kernel_rfl) (by kernel_rfl) (fun _ _ _ h=>h) HC23 (Or.inr ⟨by kernel_rfl,rfl⟩) (fun HC24=>?_)
    refine wpAnyR_takeL (i:=24) (kw:=5) (v:=undef) (fun _=>bl_refl _) (fun p q=>bl_trans p q) rfl rfl (by kernel_rfl) (by kernel_rfl) (by kernel_rfl) (by kernel_rfl) (fun _ _ _ h=>h) HC24 (Or.inr ⟨by kernel_rfl,rfl⟩) (fun HC25=>?_)
    refine wpAnyR_takeL (i:=25) (kw:=4) (v:=undef) (fun _=>bl_refl _) (fun p q=>bl_trans p q) rfl rfl (by kernel_rfl) (by kernel_rfl) (by kernel_rfl) (by kernel_rfl) (fun _ _ _ h=>h) HC25 (Or.inr ⟨by kernel_rfl,rfl⟩) (fun HC26=>?_)
    refine wpAnyR_takeL (i:=26) (kw:=3) (v:=.bool false) (fun _=>bl_refl _) (fun p q=>bl_trans p q) rfl rfl (by kernel_rfl) (by kernel_rfl) (by kernel_rfl) (by kernel_rfl) (fun _ _ _ h=>h) HC26 (Or.inl ⟨by kernel_rfl,fun W' hI=>?_⟩) (fun HC27=>?_)
    ·exact .inl (by go_simp)
    refine wpAnyR_takeL (i:=27) (kw:=2) (v:=.bool false) (fun _=>bl_refl _) (fun p q=>bl_trans p q) rfl rfl (by kernel_rfl) (by kernel_rfl) (by kernel_rfl) (by kernel_rfl) (fun _ _ _ h=>h) HC27 (Or.inl ⟨by kernel_rfl,fun W' hI=>?_⟩) (fun HC28=>?_)
    ·exact .inl (by go_simp)
    refine wpAnyR_takeL (i:=28) (kw:=4) (v:=undef) (fun _=>bl_refl _) (fun p q=>bl_trans p q) rfl rfl (by kernel_rfl) (by kernel_rfl) (by kernel_rfl) (by kernel_rfl) (fun _ _ _ h=>h) HC28 (Or.inr ⟨by kernel_rfl,rfl⟩) (fun HC29=>?_)
    refine wpAnyR_takeL (i:=29) (kw:=3) (v:=undef) (fun _=>bl_refl _) (fun p q=>bl_trans p q) rfl rfl (by kernel_rfl) (by kernel_rfl) (by kernel_rfl) (by kernel_rfl) (fun _ _ _ h=>h) HC29 (Or.inr ⟨by kernel_rfl,rfl⟩) (fun HC30=>?_)
    refine wpAnyR_takeL (i:=30) (kw:=2) (v:=undef) (fun _=>bl_refl _) (fun p q=>bl_trans p q) rfl rfl (by kernel_rfl) (by kernel_rfl) (by kernel_rfl) (by kernel_rfl) (fun _ _ _ h=>h) HC30 (Or.inr ⟨by kernel_rfl,rfl⟩) (fun HC31=>?_)
    refine wpAnyR_takeL (i:=31) (kw:=1) (v:=.bool false) (fun _=>bl_refl _) (fun p q=>bl_trans p q) rfl rfl (by kernel_rfl) (by kernel_rfl) (by kernel_rfl) (by kernel_rfl) (fun _ _ _ h=>h) HC31 (Or.inl ⟨by kernel_rfl,fun W' hI=>?_⟩) (fun HC32=>?_)
    ·exact .inl (by go_simp)
    refine wpAnyR_lastL (by kernel_rfl) (by kernel_rfl) rfl (by kernel_rfl) (fun wR hrR=>⟨bl_drewT hrR,?_⟩)
    intro K hK
    have BR:=Lib.hid (bl_drewT hrR)
    clear hrR
    go_simp
    refine hK _ _ ?_
    clear hK K
    go_wp2_with fail
    go_ret
    exact ⟨ret_bool HF.out.symm,bl_trans B.out BR.out⟩
   by_cases g2 : p + x1 ≤ 600000
   rotate_left
   ·have dg : decide (p + x1 ≤ 600000) = false:=decide_eq_false g2
    have HF : Hid (ok = false):=Lib.hid (by
     rcases ok with _ | _
     ·rfl
     ·have g:=HNO.out rfl;exact absurd g.2.1 g2)
    refine wp_region_W (last:=32) (k:=32) hmx rfl (fun HC0=>?_)
    refine wpAnyR_takeL (i:=0) (kw:=11) (v:=.bool true) (fun _=>bl_refl _) (fun p q=>bl_trans p q) rfl rfl (by kernel_rfl) (by kernel_rfl) (by kernel_rfl) (by kernel_rfl) (fun _ _ _ h=>h) HC0 (Or.inl ⟨by kernel_rfl,fun W' hI=>?_⟩) (fun HC1=>?_)
    ·exact .inl (by go_simp)
    refine wpAnyR_takeL (i:=1) (kw:=10) (v:=.bool true) (fun _=>bl_refl _) (fun p q=>bl_trans p q) rfl rfl (by kernel_rfl) (by kernel_rfl) (by kernel_rfl) (by kernel_rfl) (fun _ _ _ h=>h) HC1 (Or.inl ⟨by kernel_rfl,fun W' hI=>?_⟩) (fun HC2=>?_)
    ·exact .inl (by go_simp)
    refine wpAnyR_takeL (i:=2) (kw:=13) (v:=.agg #[.slice L.a1 b.st.length L.c1,.slice L.a2 b.bt.length L.c2,.slice L.a3 b.pd.length L.c3,.slice L.a4 b.fo.length L.c4,.slice L.a5 b.ac.length L.c5,.int .i64 b.tu,.int .i64 b.un,.int .i64 b.ra,.int .i64 b.li]) (fun _=>bl_refl _) (fun p q=>bl_trans p q) rfl rfl (by kernel_rfl) (by kernel_rfl) (by kernel_rfl) (by kernel_rfl) (fun _ _ _ h=>h) HC2 (Or.inl ⟨by kernel_rfl,fun W' hI=>?_⟩) (fun HC3=>?_)
    ·have hv:=(BT.out.blk).below hI
     obtain ⟨z0,_⟩:=hv.cell 0 _ rfl
     obtain ⟨z1,_⟩:=hv.cell 1 _ rfl
     obtain ⟨z2,_⟩:=hv.cell 2 _ rfl
     obtain ⟨z3,_⟩:=hv.cell 3 _ rfl
     obtain ⟨z4,_⟩:=hv.cell 4 _ rfl
     obtain ⟨z5,_⟩:=hv.cell 5 _ rfl
     obtain ⟨z6,_⟩:=hv.cell 6 _ rfl
     obtain ⟨z7,_⟩:=hv.cell 7 _ rfl
     obtain ⟨z8,_⟩:=hv.cell 8 _ rfl
     exact .inl (by go_simp)
    refine wpAnyR_takeL (i:=3) (kw:=12) (v:=.int .i64 p) (fun _=>bl_refl _) (fun p q=>bl_trans p q) rfl rfl (by kernel_rfl) (by kernel_rfl) (by kernel_rfl) (by kernel_rfl) (fun _ _ _ h=>h) HC3 (Or.inl ⟨by kernel_rfl,fun W' hI=>?_⟩) (fun HC4=>?_)
    ·exact .inr ⟨81,#[.agg #[.slice L.a1 b.st.length L.c1,.slice L.a2 b.bt.length L.c2,.slice L.a3 b.pd.length L.c3,.slice L.a4 b.fo.length L.c4,.slice L.a5 b.ac.length L.c5,.int .i64 b.tu,.int .i64 b.un,.int .i64 b.ra,.int .i64 b.li]],by go_simp,KP.out W' (BT.out.below hI).rd⟩
    refine wpAnyR_takeL (i:=4) (kw:=14) (v:=.pointer (some ⟨w.heap.size,0,none⟩)) (fun _=>bl_refl _) (fun p q=>bl_trans p q) rfl rfl (by kernel_rfl) (by kernel_rfl) (by kernel_rfl) (by kernel_rfl) (fun _ _ _ h=>h) HC4 (Or.inl ⟨by kernel_rfl,fun W' hI=>?_⟩) (fun HC5=>?_)
    ·exact .inl (by go_simp)
    refine wpAnyR_takeL (i:=5) (kw:=13) (v:=.slice L.a1 b.st.length L.c1) (fun _=>bl_refl _) (fun p q=>bl_trans p q) rfl rfl (by kernel_rfl) (by kernel_rfl) (by kernel_rfl) (by kernel_rfl) (fun _ _ _ h=>h) HC5 (Or.inl ⟨by kernel_rfl,fun W' hI=>?_⟩) (fun HC6=>?_)
    ·have hv:=(BT.out.blk).below hI
     obtain ⟨z0,_⟩:=hv.cell 0 _ rfl
     exact .inl (by go_simp)
    refine wpAnyR_takeL (i:=6) (kw:=12) (v:=.int .i64 x1) (fun _=>bl_refl _) (fun p q=>bl_trans p q) rfl rfl (by kernel_rfl) (by kernel_rfl) (by kernel_rfl) (by kernel_rfl) (fun _ _ _ h=>h) HC6 (Or.inl ⟨by kernel_rfl,fun W' hI=>?_⟩) (fun HC7=>?_)
    ·exact .inr ⟨82,#[.slice L.a1 b.st.length L.c1],by go_simp,(KS.out W' (BT.out.below hI).rd).mono fun e w' h=>⟨h.1,by rw [← h.2];exact bl_refl _⟩⟩
    refine wpAnyR_takeL (i:=7) (kw:=11) (v:=.int .i64 (p + x1)) (fun _=>bl_refl _) (fun p q=>bl_trans p q) rfl rfl (by kernel_rfl) (by kernel_rfl) (by kernel_rfl) (by kernel_rfl) (fun _ _ _ h=>h) HC7 (Or.inl ⟨by kernel_rfl,fun W' hI=>?_⟩) (fun HC8=>?_)
    ·exact .inl (by go_simp;first | done | exact IntWalk.i64_in _ (by omega))
    refine wpAnyR_takeL (i:=8) (kw:=10) (v:=.bool false) (fun _=>bl_refl _) (fun p q=>bl_trans p q) rfl rfl (by kernel_rfl) (by kernel_rfl) (by kernel_rfl) (by kernel_rfl) (fun _ _ _ h=>h) HC8 (Or.inl ⟨by kernel_rfl,fun W' hI=>?_⟩) (fun HC9=>?_)
    ·exact .inl (by go_simp)
    refine wpAnyR_takeL (i:=9) (kw:=9) (v:=.bool false) (fun _=>bl_refl _) (fun p q=>bl_trans p q) rfl rfl (by kernel_rfl) (by kernel_rfl) (by kernel_rfl) (by kernel_rfl) (fun _ _ _ h=>h) HC9 (Or.inl ⟨by kernel_rfl,fun W' hI=>?_⟩) (fun HC10=>?_)
    ·exact .inl (by go_simp)
    refine wpAnyR_takeL (i:=10) (kw:=8) (v:=.bool false) (fun _=>bl_refl _) (fun p q=>bl_trans p q) rfl rfl (by kernel_rfl) (by kernel_rfl) (by kernel_rfl) (by kernel_rfl) (fun _ _ _ h=>h) HC10 (Or.inl ⟨by kernel_rfl,fun W' hI=>?_⟩) (fun HC11=>?_)
    ·exact .inl (by go_simp)
    refine wpAnyR_takeL (i:=11) (kw:=10) (v:=undef) (fun _=>bl_refl _) (fun p q=>bl_trans p q) rfl rfl (by kernel_rfl) (by kernel_rfl) (by kernel_rfl) (by kernel_rfl) (fun _ _ _ h=>h) HC11 (Or.inr ⟨by kernel_rfl,rfl⟩) (fun HC12=>?_)
    refine wpAnyR_takeL (i:=12) (kw:=9) (v:=undef) (fun _=>bl_refl _) (fun p q=>bl_trans p q) rfl rfl (by kernel_rfl) (by kernel_rfl) (by kernel_rfl) (by kernel_rfl) (fun _ _ _ h=>h) HC12 (Or.inr ⟨by kernel_rfl,rfl⟩) (fun HC13=>?_)
    refine wpAnyR_takeL (i:=13) (kw:=10) (v:=undef) (fun _=>bl_refl _) (fun p q=>bl_trans p q) rfl rfl (by kernel_rfl) (by kernel_rfl) (by kernel_rfl) (by kernel_rfl) (fun _ _ _ h=>h) HC13 (Or.inr ⟨by kernel_rfl,rfl⟩) (fun HC14=>?_)
    refine wpAnyR_takeL (i:=14) (kw:=9) (v:=undef) (fun _=>bl_refl _) (fun p q=>bl_trans p q) rfl rfl (by kernel_rfl) (by kernel_rfl) (by kernel_rfl) (by kernel_rfl) (fun _ _ _ h=>h) HC14 (Or.inr ⟨by kernel_rfl,rfl⟩) (fun HC15=>?_)
    refine wpAnyR_takeL (i:=15) (kw:=8) (v:=undef) (fun _=>bl_refl _) (fun p q=>bl_trans p q) rfl rfl (by kernel_rfl) (by kernel_rfl) (by kernel_rfl) (by kernel_rfl) (fun _ _ _ h=>h) HC15 (Or.inr ⟨by kernel_rfl,rfl⟩) (fun HC16=>?_)
    refine wpAnyR_takeL (i:=16) (kw:=7) (v:=.bool false) (fun _=>bl_refl _) (fun p q=>bl_trans p q) rfl rfl (by kernel_rfl) (by kernel_rfl) (by kernel_rfl) (by kernel_rfl) (fun _ _ _ h=>h) HC16 (Or.inl ⟨by kernel_rfl,fun W' hI=>?_⟩) (fun HC17=>?_)
    ·exact .inl (by go_simp)
    refine wpAnyR_takeL (i:=17) (kw:=6) (v:=.bool false) (fun _=>bl_refl _) (fun p q=>bl_trans p q) rfl rfl (by kernel_rfl) (by kernel_rfl) (by kernel_rfl) (by kernel_rfl) (fun _ _ _ h=>h) HC17 (Or.inl ⟨by kernel_rfl,fun W' hI=>?_⟩) (fun HC18=>?_)
    ·exact .inl (by go_simp)
    refine wpAnyR_takeL (i:=18) (kw:=8) (v:=undef) (fun _=>bl_refl _) (fun p q=>bl_trans p q) rfl rfl (by kernel_rfl) (by kernel_rfl) (by kernel_rfl) (by kernel_rfl) (fun _ _ _ h=>h) HC18 (Or.inr ⟨by kernel_rfl,rfl⟩) (fun HC19=>?_)
    refine wpAnyR_takeL (i:=19) (kw:=7) (v:=undef) (fun _=>bl_refl _) (fun p q=>bl_trans p q) rfl rfl (by kernel_rfl) (by kernel_rfl) (by kernel_rfl) (by kernel_rfl) (fun _ _ _ h=>h) HC19 (Or.inr ⟨by kernel_rfl,rfl⟩) (fun HC20=>?_)
    refine wpAnyR_takeL (i:=20) (kw:=6) (v:=undef) (fun _=>bl_refl _) (fun p q=>bl_trans p q) rfl rfl (by kernel_rfl) (by kernel_rfl) (by kernel_rfl) (by kernel_rfl) (fun _ _ _ h=>h) HC20 (Or.inr ⟨by kernel_rfl,rfl⟩) (fun HC21=>?_)
    refine wpAnyR_takeL (i:=21) (kw:=5) (v:=.bool false) (fun _=>bl_refl _) (fun p q=>bl_trans p q) rfl rfl (by kernel_rfl) (by kernel_rfl) (by kernel_rfl) (by kernel_rfl) (fun _ _ _ h=>h) HC21 (Or.inl ⟨by kernel_rfl,fun W' hI=>?_⟩) (fun HC22=>?_)
    ·exact .inl (by go_simp)
    refine wpAnyR_takeL (i:=22) (kw:=4) (v:=.bool false) (fun _=>bl_refl _) (fun p q=>bl_trans p q) rfl rfl (by kernel_rfl) (by kernel_rfl) (by kernel_rfl) (by kernel_rfl) (fun _ _ _ h=>h) HC22 (Or.inl ⟨by kernel_rfl,fun W' hI=>?_⟩) (fun HC23=>?_)
    ·exact .inl (by go_simp)
    refine wpAnyR_takeL (i:=23) (kw:=6) (v:=undef) (fun _=>bl_refl _) (fun p q=>bl_trans p q) rfl rfl (by kernel_rfl) (by kernel_rfl) (by kernel_rfl) (by kernel_rfl) (fun _ _ _ h=>h) HC23 (Or.inr ⟨by kernel_rfl,rfl⟩) (fun HC24=>?_)
    refine wpAnyR_takeL (i:=24) (kw:=5) (v:=undef) (fun _=>bl_refl _) (fun p q=>bl_trans p q) rfl rfl (by kernel_rfl) (by kernel_rfl) (by kernel_rfl) (by kernel_rfl) (fun _ _ _ h=>h) HC24 (Or.inr ⟨by kernel_rfl,rfl⟩) (fun HC25=>?_)
    refine wpAnyR_takeL (i:=25) (kw:=4) (v:=undef) (fun _=>bl_refl _) (fun p q=>bl_trans p q) rfl rfl (by kernel_rfl) (by kernel_rfl) (by kernel_rfl) (by kernel_rfl) (fun _ _ _ h=>h) HC25 (Or.inr ⟨by kernel_rfl,rfl⟩) (fun HC26=>?_)
    refine wpAnyR_takeL (i:=26) (kw:=3) (v:=.bool false) (fun _=>bl_refl _) (fun p q=>bl_trans p q) rfl rfl (by kernel_rfl) (by kernel_rfl) (by kernel_rfl) (by kernel_rfl) (fun _ _ _ h=>h) HC26 (Or.inl ⟨by kernel_rfl,fun W' hI=>?_⟩) (fun HC27=>?_)
    ·exact .inl (by go_simp)
    refine wpAnyR_takeL (i:=27) (kw:=2) (v:=.bool false) (fun _=>bl_refl _) (fun p q=>bl_trans p q) rfl rfl (by kernel_rfl) (by kernel_rfl) (by kernel_rfl) (by kernel_rfl) (fun _ _ _ h=>h) HC27 (Or.inl ⟨by kernel_rfl,fun W' hI=>?_⟩) (fun HC28=>?_)
    ·exact .inl (by go_simp)
    refine wpAnyR_takeL (i:=28) (kw:=4) (v:=undef) (fun _=>bl_refl _) (fun p q=>bl_trans p q) rfl rfl (by kernel_rfl) (by kernel_rfl) (by kernel_rfl) (by kernel_rfl) (fun _ _ _ h=>h) HC28 (Or.inr ⟨by kernel_rfl,rfl⟩) (fun HC29=>?_)
    refine wpAnyR_takeL (i:=29) (kw:=3) (v:=undef) (fun _=>bl_refl _) (fun p q=>bl_trans p q) rfl rfl (by kernel_rfl) (by kernel_rfl) (by kernel_rfl) (by kernel_rfl) (fun _ _ _ h=>h) HC29 (Or.inr ⟨by kernel_rfl,rfl⟩) (fun HC30=>?_)
    refine wpAnyR_takeL (i:=30) (kw:=2) (v:=undef) (fun _=>bl_refl _) (fun p q=>bl_trans p q) rfl rfl (by kernel_rfl) (by kernel_rfl) (by kernel_rfl) (by kernel_rfl) (fun _ _ _ h=>h) HC30 (Or.inr ⟨by kernel_rfl,rfl⟩) (fun HC31=>?_)
    refine wpAnyR_takeL (i:=31) (kw:=1) (v:=.bool false) (fun _=>bl_refl _) (fun p q=>bl_trans p q) rfl rfl (by kernel_rfl) (by kernel_rfl) (by kernel_rfl) (by kernel_rfl) (fun _ _ _ h=>h) HC31 (Or.inl ⟨by kernel_rfl,fun W' hI=>?_⟩) (fun HC32=>?_)
    ·exact .inl (by go_simp)
    refine wpAnyR_lastL (by kernel_rfl) (by kernel_rfl) rfl (by kernel_rfl) (fun wR hrR=>⟨bl_drewT hrR,?_⟩)
    intro K hK
    have BR:=Lib.hid (bl_drewT hrR)
    clear hrR
    go_simp
    refine hK _ _ ?_
    clear hK K
    go_wp2_with fail
    go_ret
    exact ⟨ret_bool HF.out.symm,bl_trans B.out BR.out⟩
   have dg : decide (p + x1 ≤ 600000) = true:=decide_eq_true g2
   rcases r1 with _ | _
   ·have HF : Hid (ok = false):=Lib.hid (by
     rcases ok with _ | _
     ·rfl
     ·have g:=HNO.out rfl;simp at g)
    refine wp_region_W (last:=32) (k:=32) hmx rfl (fun HC0=>?_)
    refine wpAnyR_takeL (i:=0) (kw:=11) (v:=.bool true) (fun _=>bl_refl _) (fun p q=>bl_trans p q) rfl rfl (by kernel_rfl) (by kernel_rfl) (by kernel_rfl) (by kernel_rfl) (fun _ _ _ h=>h) HC0 (Or.inl ⟨by kernel_rfl,fun W' hI=>?_⟩) (fun HC1=>?_)
    ·exact .inl (by go_simp)
    refine wpAnyR_takeL (i:=1) (kw:=10) (v:=.bool true) (fun _=>bl_refl _) (fun p q=>bl_trans p q) rfl rfl (by kernel_rfl) (by kernel_rfl) (by kernel_rfl) (by kernel_rfl) (fun _ _ _ h=>h) HC1 (Or.inl ⟨by kernel_rfl,fun W' hI=>?_⟩) (fun HC2=>?_)
    ·exact .inl (by go_simp)
    refine wpAnyR_takeL (i:=2) (kw:=13) (v:=.agg #[.slice L.a1 b.st.length L.c1,.slice L.a2 b.bt.length L.c2,.slice L.a3 b.pd.length L.c3,.slice L.a4 b.fo.length L.c4,.slice L.a5 b.ac.length L.c5,.int .i64 b.tu,.int .i64 b.un,.int .i64 b.ra,.int .i64 b.li]) (fun _=>bl_refl _) (fun p q=>bl_trans p q) rfl rfl (by kernel_rfl) (by kernel_rfl) (by kernel_rfl) (by kernel_rfl) (fun _ _ _ h=>h) HC2 (Or.inl ⟨by kernel_rfl,fun W' hI=>?_⟩) (fun HC3=>?_)
    ·have hv:=(BT.out.blk).below hI
     obtain ⟨z0,_⟩:=hv.cell 0 _ rfl
     obtain ⟨z1,_⟩:=hv.cell 1 _ rfl
     obtain ⟨z2,_⟩:=hv.cell 2 _ rfl
     obtain ⟨z3,_⟩:=hv.cell 3 _ rfl
     obtain ⟨z4,_⟩:=hv.cell 4 _ rfl
     obtain ⟨z5,_⟩:=hv.cell 5 _ rfl
     obtain ⟨z6,_⟩:=hv.cell 6 _ rfl
     obtain ⟨z7,_⟩:=hv.cell 7 _ rfl
     obtain ⟨z8,_⟩:=hv.cell 8 _ rfl
     exact .inl (by go_simp)
    refine wpAnyR_takeL (i:=3) (kw:=12) (v:=.int .i64 p) (fun _=>bl_refl _) (fun p q=>bl_trans p q) rfl rfl (by kernel_rfl) (by kernel_rfl) (by kernel_rfl) (by kernel_rfl) (fun _ _ _ h=>h) HC3 (Or.inl ⟨by kernel_rfl,fun W' hI=>?_⟩) (fun HC4=>?_)
    ·exact .inr ⟨81,#[.agg #[.slice L.a1 b.st.length L.c1,.slice L.a2 b.bt.length L.c2,.slice L.a3 b.pd.length L.c3,.slice L.a4 b.fo.length L.c4,.slice L.a5 b.ac.length L.c5,.int .i64 b.tu,.int .i64 b.un,.int .i64 b.ra,.int .i64 b.li]],by go_simp,KP.out W' (BT.out.below hI).rd⟩
    refine wpAnyR_takeL (i:=4) (kw:=14) (v:=.pointer (some ⟨w.heap.size,0,none⟩)) (fun _=>bl_refl _) (fun p q=>bl_trans p q) rfl rfl (by kernel_rfl) (by kernel_rfl) (by kernel_rfl) (by kernel_rfl) (fun _ _ _ h=>h) HC4 (Or.inl ⟨by kernel_rfl,fun W' hI=>?_⟩) (fun HC5=>?_)
    ·exact .inl (by go_simp)
    refine wpAnyR_takeL (i:=5) (kw:=13) (v:=.slice L.a1 b.st.length L.c1) (fun _=>bl_refl _) (fun p q=>bl_trans p q) rfl rfl (by kernel_rfl) (by kernel_rfl) (by kernel_rfl) (by kernel_rfl) (fun _ _ _ h=>h) HC5 (Or.inl ⟨by kernel_rfl,fun W' hI=>?_⟩) (fun HC6=>?_)
    ·have hv:=(BT.out.blk).below hI
     obtain ⟨z0,_⟩:=hv.cell 0 _ rfl
     exact .inl (by go_simp)
    refine wpAnyR_takeL (i:=6) (kw:=12) (v:=.int .i64 x1) (fun _=>bl_refl _) (fun p q=>bl_trans p q) rfl rfl (by kernel_rfl) (by kernel_rfl) (by kernel_rfl) (by kernel_rfl) (fun _ _ _ h=>h) HC6 (Or.inl ⟨by kernel_rfl,fun W' hI=>?_⟩) (fun HC7=>?_)
    ·exact .inr ⟨82,#[.slice L.a1 b.st.length L.c1],by go_simp,(KS.out W' (BT.out.below hI).rd).mono fun e w' h=>⟨h.1,by rw [← h.2];exact bl_refl _⟩⟩
    refine wpAnyR_takeL (i:=7) (kw:=11) (v:=.int .i64 (p + x1)) (fun _=>bl_refl _) (fun p q=>bl_trans p q) rfl rfl (by kernel_rfl) (by kernel_rfl) (by kernel_rfl) (by kernel_rfl) (fun _ _ _ h=>h) HC7 (Or.inl ⟨by kernel_rfl,fun W' hI=>?_⟩) (fun HC8=>?_)
    ·exact .inl (by go_simp;first | done | exact IntWalk.i64_in _ (by omega))
    refine wpAnyR_takeL (i:=8) (kw:=10) (v:=.bool true) (fun _=>bl_refl _) (fun p q=>bl_trans p q) rfl rfl (by kernel_rfl) (by kernel_rfl) (by kernel_rfl) (by kernel_rfl) (fun _ _ _ h=>h) HC8 (Or.inl ⟨by kernel_rfl,fun W' hI=>?_⟩) (fun HC9=>?_)
    ·exact .inl (by go_simp)
    refine wpAnyR_takeL (i:=9) (kw:=9) (v:=.bool true) (fun _=>bl_refl _) (fun p q=>bl_trans p q) rfl rfl (by kernel_rfl) (by kernel_rfl) (by kernel_rfl) (by kernel_rfl) (fun _ _ _ h=>h) HC9 (Or.inl ⟨by kernel_rfl,fun W' hI=>?_⟩) (fun HC10=>?_)
    ·exact .inl (by go_simp)
    refine wpAnyR_takeL (i:=10) (kw:=8) (v:=.bool true) (fun _=>bl_refl _) (fun p q=>bl_trans p q) rfl rfl (by kernel_rfl) (by kernel_rfl) (by kernel_rfl) (by kernel_rfl) (fun _ _ _ h=>h) HC10 (Or.inl ⟨by kernel_rfl,fun W' hI=>?_⟩) (fun HC11=>?_)
    ·exact .inl (by go_simp)
    refine wpAnyR_takeL (i:=11) (kw:=10) (v:=.pointer (some ⟨w.heap.size,5,none⟩)) (fun _=>bl_refl _) (fun p q=>bl_trans p q) rfl rfl (by kernel_rfl) (by kernel_rfl) (by kernel_rfl) (by kernel_rfl) (fun _ _ _ h=>h) HC11 (Or.inl ⟨by kernel_rfl,fun W' hI=>?_⟩) (fun HC12=>?_)
    ·exact .inl (by go_simp)
    refine wpAnyR_takeL (i:=12) (kw:=9) (v:=.int .i64 b.tu) (fun _=>bl_refl _) (fun p q=>bl_trans p q) rfl rfl (by kernel_rfl) (by kernel_rfl) (by kernel_rfl) (by kernel_rfl) (fun _ _ _ h=>h) HC12 (Or.inl ⟨by kernel_rfl,fun W' hI=>?_⟩) (fun HC13=>?_)
    ·have hv:=(BT.out.blk).below hI
     obtain ⟨z5,_⟩:=hv.cell 5 _ rfl
     exact .inl (by go_simp)
    refine wpAnyR_takeL (i:=13) (kw:=10) (v:=.int .i64 b.st.length) (fun _=>bl_refl _) (fun p q=>bl_trans p q) rfl rfl (by kernel_rfl) (by kernel_rfl) (by kernel_rfl) (by kernel_rfl) (fun _ _ _ h=>h) HC13 (Or.inl ⟨by kernel_rfl,fun W' hI=>?_⟩) (fun HC14=>?_)
    ·exact .inl (by go_simp)
    refine wpAnyR_takeL (i:=14) (kw:=9) (v:=.int .i64 (b.st.length - 1)) (fun _=>bl_refl _) (fun p q=>bl_trans p q) rfl rfl (by kernel_rfl) (by kernel_rfl) (by kernel_rfl) (by kernel_rfl) (fun _ _ _ h=>h) HC14 (Or.inl ⟨by kernel_rfl,fun W' hI=>?_⟩) (fun HC15=>?_)
    ·exact .inl (by go_simp;first | done | exact IntWalk.i64_in _ (by omega))
    refine wpAnyR_takeL (i:=15) (kw:=8) (v:=.bool false) (fun _=>bl_refl _) (fun p q=>bl_trans p q) rfl rfl (by kernel_rfl) (by kernel_rfl) (by kernel_rfl) (by kernel_rfl) (fun _ _ _ h=>h) HC15 (Or.inl ⟨by kernel_rfl,fun W' hI=>?_⟩) (fun HC16=>?_)
    ·exact .inr ⟨79,#[.int .i64 b.tu,.int .i64 0,.int .i64 (b.st.length - 1)],by go_simp,(KT.out W').mono fun e w' h=>⟨h.1,by rw [← h.2];exact bl_refl _⟩⟩
    refine wpAnyR_takeL (i:=16) (kw:=7) (v:=.bool false) (fun _=>bl_refl _) (fun p q=>bl_trans p q) rfl rfl (by kernel_rfl) (by kernel_rfl) (by kernel_rfl) (by kernel_rfl) (fun _ _ _ h=>h) HC16 (Or.inl ⟨by kernel_rfl,fun W' hI=>?_⟩) (fun HC17=>?_)
    ·exact .inl (by go_simp)
    refine wpAnyR_takeL (i:=17) (kw:=6) (v:=.bool false) (fun _=>bl_refl _) (fun p q=>bl_trans p q) rfl rfl (by kernel_rfl) (by kernel_rfl) (by kernel_rfl) (by kernel_rfl) (fun _ _ _ h=>h) HC17 (Or.inl ⟨by kernel_rfl,fun W' hI=>?_⟩) (fun HC18=>?_)
    ·exact .inl (by go_simp)
    refine wpAnyR_takeL (i:=18) (kw:=8) (v:=undef) (fun _=>bl_refl _) (fun p q=>bl_trans p q) rfl rfl (by kernel_rfl) (by kernel_rfl) (by kernel_rfl) (by kernel_rfl) (fun _ _ _ h=>h) HC18 (Or.inr ⟨by kernel_rfl,rfl⟩) (fun HC19=>?_)
    refine wpAnyR_takeL (i:=19) (kw:=7) (v:=undef) (fun _=>bl_refl _) (fun p q=>bl_trans p q) rfl rfl (by kernel_rfl) (by kernel_rfl) (by kernel_rfl) (by kernel_rfl) (fun _ _ _ h=>h) HC19 (Or.inr ⟨by kernel_rfl,rfl⟩) (fun HC20=>?_)
    refine wpAnyR_takeL (i:=20) (kw:=6) (v:=undef) (fun _=>bl_refl _) (fun p q=>bl_trans p q) rfl rfl (by kernel_rfl) (by kernel_rfl) (by kernel_rfl) (by kernel_rfl) (fun _ _ _ h=>h) HC20 (Or.inr ⟨by kernel_rfl,rfl⟩) (fun HC21=>?_)
    refine wpAnyR_takeL (i:=21) (kw:=5) (v:=.bool false) (fun _=>bl_refl _) (fun p q=>bl_trans p q) rfl rfl (by kernel_rfl) (by kernel_rfl) (by kernel_rfl) (by kernel_rfl) (fun _ _ _ h=>h) HC21 (Or.inl ⟨by kernel_rfl,fun W' hI=>?_⟩) (fun HC22=>?_)
    ·exact .inl (by go_simp)
    refine wpAnyR_takeL (i:=22) (kw:=4) (v:=.bool false) (fun _=>bl_refl _) (fun p q=>bl_trans p q) rfl rfl (by kernel_rfl) (by kernel_rfl) (by kernel_rfl) (by kernel_rfl) (fun _ _ _ h=>h) HC22 (Or.inl ⟨by kernel_rfl,fun W' hI=>?_⟩) (fun HC23=>?_)
    ·exact .inl (by go_simp)
    refine wpAnyR_takeL (i:=23) (kw:=6) (v:=undef) (fun _=>bl_refl _) (fun p q=>bl_trans p q) rfl rfl (by kernel_rfl) (by kernel_rfl) (by kernel_rfl) (by kernel_rfl) (fun _ _ _ h=>h) HC23 (Or.inr ⟨by kernel_rfl,rfl⟩) (fun HC24=>?_)
    refine wpAnyR_takeL (i:=24) (kw:=5) (v:=undef) (fun _=>bl_refl _) (fun p q=>bl_trans p q) rfl rfl (by kernel_rfl) (by kernel_rfl) (by kernel_rfl) (by kernel_rfl) (fun _ _ _ h=>h) HC24 (Or.inr ⟨by kernel_rfl,rfl⟩) (fun HC25=>?_)
    refine wpAnyR_takeL (i:=25) (kw:=4) (v:=undef) (fun _=>bl_refl _) (fun p q=>bl_trans p q) rfl rfl (by kernel_rfl) (by kernel_rfl) (by kernel_rfl) (by kernel_rfl) (fun _ _ _ h=>h) HC25 (Or.inr ⟨by kernel_rfl,rfl⟩) (fun HC26=>?_)
    refine wpAnyR_takeL (i:=26) (kw:=3) (v:=.bool false) (fun _=>bl_refl _) (fun p q=>bl_trans p q) rfl rfl (by kernel_rfl) (by kernel_rfl) (by kernel_rfl) (by kernel_rfl) (fun _ _ _ h=>h) HC26 (Or.inl ⟨by kernel_rfl,fun W' hI=>?_⟩) (fun HC27=>?_)
    ·exact .inl (by go_simp)
    refine wpAnyR_takeL (i:=27) (kw:=2) (v:=.bool false) (fun _=>bl_refl _) (fun p q=>bl_trans p q) rfl rfl (by kernel_rfl) (by kernel_rfl) (by kernel_rfl) (by kernel_rfl) (fun _ _ _ h=>h) HC27 (Or.inl ⟨by kernel_rfl,fun W' hI=>?_⟩) (fun HC28=>?_)
    ·exact .inl (by go_simp)
    refine wpAnyR_takeL (i:=28) (kw:=4) (v:=undef) (fun _=>bl_refl _) (fun p q=>bl_trans p q) rfl rfl (by kernel_rfl) (by kernel_rfl) (by kernel_rfl) (by kernel_rfl) (fun _ _ _ h=>h) HC28 (Or.inr ⟨by kernel_rfl,rfl⟩) (fun HC29=>?_)
    refine wpAnyR_takeL (i:=29) (kw:=3) (v:=undef) (fun _=>bl_refl _) (fun p q=>bl_trans p q) rfl rfl (by kernel_rfl) (by kernel_rfl) (by kernel_rfl) (by kernel_rfl) (fun _ _ _ h=>h) HC29 (Or.inr ⟨by kernel_rfl,rfl⟩) (fun HC30=>?_)
    refine wpAnyR_takeL (i:=30) (kw:=2) (v:=undef) (fun _=>bl_refl _) (fun p q=>bl_trans p q) rfl rfl (by kernel_rfl) (by kernel_rfl) (by kernel_rfl) (by kernel_rfl) (fun _ _ _ h=>h) HC30 (Or.inr ⟨by kernel_rfl,rfl⟩) (fun HC31=>?_)
    refine wpAnyR_takeL (i:=31) (kw:=1) (v:=.bool false) (fun _=>bl_refl _) (fun p q=>bl_trans p q) rfl rfl (by kernel_rfl) (by kernel_rfl) (by kernel_rfl) (by kernel_rfl) (fun _ _ _ h=>h) HC31 (Or.inl ⟨by kernel_rfl,fun W' hI=>?_⟩) (fun HC32=>?_)
    ·exact .inl (by go_simp)
    refine wpAnyR_lastL (by kernel_rfl) (by kernel_rfl) rfl (by kernel_rfl) (fun wR hrR=>⟨bl_drewT hrR,?_⟩)
    intro K hK
    have BR:=Lib.hid (bl_drewT hrR)
    clear hrR
    go_simp
    refine hK _ _ ?_
    clear hK K
    go_wp2_with fail
    go_ret
    exact ⟨ret_bool HF.out.symm,bl_trans B.out BR.out⟩
   rcases r2 with _ | _
   ·have HF : Hid (ok = false):=Lib.hid (by
     rcases ok with _ | _
     ·rfl
     ·have g:=HNO.out rfl;simp at g)
    refine wp_region_W (last:=32) (k:=32) hmx rfl (fun HC0=>?_)
    refine wpAnyR_takeL (i:=0) (kw:=11) (v:=.bool true) (fun _=>bl_refl _) (fun p q=>bl_trans p q) rfl rfl (by kernel_rfl) (by kernel_rfl) (by kernel_rfl) (by kernel_rfl) (fun _ _ _ h=>h) HC0 (Or.inl ⟨by kernel_rfl,fun W' hI=>?_⟩) (fun HC1=>?_)
    ·exact .inl (by go_simp)
    refine wpAnyR_takeL (i:=1) (kw:=10) (v:=.bool true) (fun _=>bl_refl _) (fun p q=>bl_trans p q) rfl rfl (by kernel_rfl) (by kernel_rfl) (by kernel_rfl) (by kernel_rfl) (fun _ _ _ h=>h) HC1 (Or.inl ⟨by kernel_rfl,fun W' hI=>?_⟩) (fun HC2=>?_)
    ·exact .inl (by go_simp)
    refine wpAnyR_takeL (i:=2) (kw:=13) (v:=.agg #[.slice L.a1 b.st.length L.c1,.slice L.a2 b.bt.length L.c2,.slice L.a3 b.pd.length L.c3,.slice L.a4 b.fo.length L.c4,.slice L.a5 b.ac.length L.c5,.int .i64 b.tu,.int .i64 b.un,.int .i64 b.ra,.int .i64 b.li]) (fun _=>bl_refl _) (fun p q=>bl_trans p q) rfl rfl (by kernel_rfl) (by kernel_rfl) (by kernel_rfl) (by kernel_rfl) (fun _ _ _ h=>h) HC2 (Or.inl ⟨by kernel_rfl,fun W' hI=>?_⟩) (fun HC3=>?_)
    ·have hv:=(BT.out.blk).below hI
     obtain ⟨z0,_⟩:=hv.cell 0 _ rfl
     obtain ⟨z1,_⟩:=hv.cell 1 _ rfl
     obtain ⟨z2,_⟩:=hv.cell 2 _ rfl
     obtain ⟨z3,_⟩:=hv.cell 3 _ rfl
     obtain ⟨z4,_⟩:=hv.cell 4 _ rfl
     obtain ⟨z5,_⟩:=hv.cell 5 _ rfl
     obtain ⟨z6,_⟩:=hv.cell 6 _ rfl
     obtain ⟨z7,_⟩:=hv.cell 7 _ rfl
     obtain ⟨z8,_⟩:=hv.cell 8 _ rfl
     exact .inl (by go_simp)
    refine wpAnyR_takeL (i:=3) (kw:=12) (v:=.int .i64 p) (fun _=>bl_refl _) (fun p q=>bl_trans p q) rfl rfl (by kernel_rfl) (by kernel_rfl) (by kernel_rfl) (by kernel_rfl) (fun _ _ _ h=>h) HC3 (Or.inl ⟨by kernel_rfl,fun W' hI=>?_⟩) (fun HC4=>?_)
    ·exact .inr ⟨81,#[.agg #[.slice L.a1 b.st.length L.c1,.slice L.a2 b.bt.length L.c2,.slice L.a3 b.pd.length L.c3,.slice L.a4 b.fo.length L.c4,.slice L.a5 b.ac.length L.c5,.int .i64 b.tu,.int .i64 b.un,.int .i64 b.ra,.int .i64 b.li]],by go_simp,KP.out W' (BT.out.below hI).rd⟩
    refine wpAnyR_takeL (i:=4) (kw:=14) (v:=.pointer (some ⟨w.heap.size,0,none⟩)) (fun _=>bl_refl _) (fun p q=>bl_trans p q) rfl rfl (by kernel_rfl) (by kernel_rfl) (by kernel_rfl) (by kernel_rfl) (fun _ _ _ h=>h) HC4 (Or.inl ⟨by kernel_rfl,fun W' hI=>?_⟩) (fun HC5=>?_)
    ·exact .inl (by go_simp)
    refine wpAnyR_takeL (i:=5) (kw:=13) (v:=.slice L.a1 b.st.length L.c1) (fun _=>bl_refl _) (fun p q=>bl_trans p q) rfl rfl (by kernel_rfl) (by kernel_rfl) (by kernel_rfl) (by kernel_rfl) (fun _ _ _ h=>h) HC5 (Or.inl ⟨by kernel_rfl,fun W' hI=>?_⟩) (fun HC6=>?_)
    ·have hv:=(BT.out.blk).below hI
     obtain ⟨z0,_⟩:=hv.cell 0 _ rfl
     exact .inl (by go_simp)
    refine wpAnyR_takeL (i:=6) (kw:=12) (v:=.int .i64 x1) (fun _=>bl_refl _) (fun p q=>bl_trans p q) rfl rfl (by kernel_rfl) (by kernel_rfl) (by kernel_rfl) (by kernel_rfl) (fun _ _ _ h=>h) HC6 (Or.inl ⟨by kernel_rfl,fun W' hI=>?_⟩) (fun HC7=>?_)
    ·exact .inr ⟨82,#[.slice L.a1 b.st.length L.c1],by go_simp,(KS.out W' (BT.out.below hI).rd).mono fun e w' h=>⟨h.1,by rw [← h.2];exact bl_refl _⟩⟩
    refine wpAnyR_takeL (i:=7) (kw:=11) (v:=.int .i64 (p + x1)) (fun _=>bl_refl _) (fun p q=>bl_trans p q) rfl rfl (by kernel_rfl) (by kernel_rfl) (by kernel_rfl) (by kernel_rfl) (fun _ _ _ h=>h) HC7 (Or.inl ⟨by kernel_rfl,fun W' hI=>?_⟩) (fun HC8=>?_)
    ·exact .inl (by go_simp;first | done | exact IntWalk.i64_in _ (by omega))
    refine wpAnyR_takeL (i:=8) (kw:=10) (v:=.bool true) (fun _=>bl_refl _) (fun p q=>bl_trans p q) rfl rfl (by kernel_rfl) (by kernel_rfl) (by kernel_rfl) (by kernel_rfl) (fun _ _ _ h=>h) HC8 (Or.inl ⟨by kernel_rfl,fun W' hI=>?_⟩) (fun HC9=>?_)
    ·exact .inl (by go_simp)
    refine wpAnyR_takeL (i:=9) (kw:=9) (v:=.bool true) (fun _=>bl_refl _) (fun p q=>bl_trans p q) rfl rfl (by kernel_rfl) (by kernel_rfl) (by kernel_rfl) (by kernel_rfl) (fun _ _ _ h=>h) HC9 (Or.inl ⟨by kernel_rfl,fun W' hI=>?_⟩) (fun HC10=>?_)
    ·exact .inl (by go_simp)
    refine wpAnyR_takeL (i:=10) (kw:=8) (v:=.bool true) (fun _=>bl_refl _) (fun p q=>bl_trans p q) rfl rfl (by kernel_rfl) (by kernel_rfl) (by kernel_rfl) (by kernel_rfl) (fun _ _ _ h=>h) HC10 (Or.inl ⟨by kernel_rfl,fun W' hI=>?_⟩) (fun HC11=>?_)
    ·exact .inl (by go_simp)
    refine wpAnyR_takeL (i:=11) (kw:=10) (v:=.pointer (some ⟨w.heap.size,5,none⟩)) (fun _=>bl_refl _) (fun p q=>bl_trans p q) rfl rfl (by kernel_rfl) (by kernel_rfl) (by kernel_rfl) (by kernel_rfl) (fun _ _ _ h=>h) HC11 (Or.inl ⟨by kernel_rfl,fun W' hI=>?_⟩) (fun HC12=>?_)
    ·exact .inl (by go_simp)
    refine wpAnyR_takeL (i:=12) (kw:=9) (v:=.int .i64 b.tu) (fun _=>bl_refl _) (fun p q=>bl_trans p q) rfl rfl (by kernel_rfl) (by kernel_rfl) (by kernel_rfl) (by kernel_rfl) (fun _ _ _ h=>h) HC12 (Or.inl ⟨by kernel_rfl,fun W' hI=>?_⟩) (fun HC13=>?_)
    ·have hv:=(BT.out.blk).below hI
     obtain ⟨z5,_⟩:=hv.cell 5 _ rfl
     exact .inl (by go_simp)
    refine wpAnyR_takeL (i:=13) (kw:=10) (v:=.int .i64 b.st.length) (fun _=>bl_refl _) (fun p q=>bl_trans p q) rfl rfl (by kernel_rfl) (by kernel_rfl) (by kernel_rfl) (by kernel_rfl) (fun _ _ _ h=>h) HC13 (Or.inl ⟨by kernel_rfl,fun W' hI=>?_⟩) (fun HC14=>?_)
    ·exact .inl (by go_simp)
    refine wpAnyR_takeL (i:=14) (kw:=9) (v:=.int .i64 (b.st.length - 1)) (fun _=>bl_refl _) (fun p q=>bl_trans p q) rfl rfl (by kernel_rfl) (by kernel_rfl) (by kernel_rfl) (by kernel_rfl) (fun _ _ _ h=>h) HC14 (Or.inl ⟨by kernel_rfl,fun W' hI=>?_⟩) (fun HC15=>?_)
    ·exact .inl (by go_simp;first | done | exact IntWalk.i64_in _ (by omega))
    refine wpAnyR_takeL (i:=15) (kw:=8) (v:=.bool true) (fun _=>bl_refl _) (fun p q=>bl_trans p q) rfl rfl (by kernel_rfl) (by kernel_rfl) (by kernel_rfl) (by kernel_rfl) (fun _ _ _ h=>h) HC15 (Or.inl ⟨by kernel_rfl,fun W' hI=>?_⟩) (fun HC16=>?_)
    ·exact .inr ⟨79,#[.int .i64 b.tu,.int .i64 0,.int .i64 (b.st.length - 1)],by go_simp,(KT.out W').mono fun e w' h=>⟨h.1,by rw [← h.2];exact bl_refl _⟩⟩
    refine wpAnyR_takeL (i:=16) (kw:=7) (v:=.bool true) (fun _=>bl_refl _) (fun p q=>bl_trans p q) rfl rfl (by kernel_rfl) (by kernel_rfl) (by kernel_rfl) (by kernel_rfl) (fun _ _ _ h=>h) HC16 (Or.inl ⟨by kernel_rfl,fun W' hI=>?_⟩) (fun HC17=>?_)
    ·exact .inl (by go_simp)
    refine wpAnyR_takeL (i:=17) (kw:=6) (v:=.bool true) (fun _=>bl_refl _) (fun p q=>bl_trans p q) rfl rfl (by kernel_rfl) (by kernel_rfl) (by kernel_rfl) (by kernel_rfl) (fun _ _ _ h=>h) HC17 (Or.inl ⟨by kernel_rfl,fun W' hI=>?_⟩) (fun HC18=>?_)
    ·exact .inl (by go_simp)
    refine wpAnyR_takeL (i:=18) (kw:=8) (v:=.pointer (some ⟨w.heap.size,6,none⟩)) (fun _=>bl_refl _) (fun p q=>bl_trans p q) rfl rfl (by kernel_rfl) (by kernel_rfl) (by kernel_rfl) (by kernel_rfl) (fun _ _ _ h=>h) HC18 (Or.inl ⟨by kernel_rfl,fun W' hI=>?_⟩) (fun HC19=>?_)
    ·exact .inl (by go_simp)
    refine wpAnyR_takeL (i:=19) (kw:=7) (v:=.int .i64 b.un) (fun _=>bl_refl _) (fun p q=>bl_trans p q) rfl rfl (by kernel_rfl) (by kernel_rfl) (by kernel_rfl) (by kernel_rfl) (fun _ _ _ h=>h) HC19 (Or.inl ⟨by kernel_rfl,fun W' hI=>?_⟩) (fun HC20=>?_)
    ·have hv:=(BT.out.blk).below hI
     obtain ⟨z6,_⟩:=hv.cell 6 _ rfl
     exact .inl (by go_simp)
    refine wpAnyR_takeL (i:=20) (kw:=6) (v:=.bool false) (fun _=>bl_refl _) (fun p q=>bl_trans p q) rfl rfl (by kernel_rfl) (by kernel_rfl) (by kernel_rfl) (by kernel_rfl) (fun _ _ _ h=>h) HC20 (Or.inl ⟨by kernel_rfl,fun W' hI=>?_⟩) (fun HC21=>?_)
    ·exact .inr ⟨79,#[.int .i64 b.un,.int .i64 1,.int .i64 100000],by go_simp,(KU.out W').mono fun e w' h=>⟨h.1,by rw [← h.2];exact bl_refl _⟩⟩
    refine wpAnyR_takeL (i:=21) (kw:=5) (v:=.bool false) (fun _=>bl_refl _) (fun p q=>bl_trans p q) rfl rfl (by kernel_rfl) (by kernel_rfl) (by kernel_rfl) (by kernel_rfl) (fun _ _ _ h=>h) HC21 (Or.inl ⟨by kernel_rfl,fun W' hI=>?_⟩) (fun HC22=>?_)
    ·exact .inl (by go_simp)
    refine wpAnyR_takeL (i:=22) (kw:=4) (v:=.bool false) (fun _=>bl_refl _) (fun p q=>bl_trans p q) rfl rfl (by kernel_rfl) (by kernel_rfl) (by kernel_rfl) (by kernel_rfl) (fun _ _ _ h=>h) HC22 (Or.inl ⟨by kernel_rfl,fun W' hI=>?_⟩) (fun HC23=>?_)
    ·exact .inl (by go_simp)
    refine wpAnyR_takeL (i:=23) (kw:=6) (v:=undef) (fun _=>bl_refl _) (fun p q=>bl_trans p q) rfl rfl (by kernel_rfl) (by kernel_rfl) (by kernel_rfl) (by kernel_rfl) (fun _ _ _ h=>h) HC23 (Or.inr ⟨by kernel_rfl,rfl⟩) (fun HC24=>?_)
    refine wpAnyR_takeL (i:=24) (kw:=5) (v:=undef) (fun _=>bl_refl _) (fun p q=>bl_trans p q) rfl rfl (by kernel_rfl) (by kernel_rfl) (by kernel_rfl) (by kernel_rfl) (fun _ _ _ h=>h) HC24 (Or.inr ⟨by kernel_rfl,rfl⟩) (fun HC25=>?_)
    refine wpAnyR_takeL (i:=25) (kw:=4) (v:=undef) (fun _=>bl_refl _) (fun p q=>bl_trans p q) rfl rfl (by kernel_rfl) (by kernel_rfl) (by kernel_rfl) (by kernel_rfl) (fun _ _ _ h=>h) HC25 (Or.inr ⟨by kernel_rfl,rfl⟩) (fun HC26=>?_)
    refine wpAnyR_takeL (i:=26) (kw:=3) (v:=.bool false) (fun _=>bl_refl _) (fun p q=>bl_trans p q) rfl rfl (by kernel_rfl) (by kernel_rfl) (by kernel_rfl) (by kernel_rfl) (fun _ _ _ h=>h) HC26 (Or.inl ⟨by kernel_rfl,fun W' hI=>?_⟩) (fun HC27=>?_)
    ·exact .inl (by go_simp)
    refine wpAnyR_takeL (i:=27) (kw:=2) (v:=.bool false) (fun _=>bl_refl _) (fun p q=>bl_trans p q) rfl rfl (by kernel_rfl) (by kernel_rfl) (by kernel_rfl) (by kernel_rfl) (fun _ _ _ h=>h) HC27 (Or.inl ⟨by kernel_rfl,fun W' hI=>?_⟩) (fun HC28=>?_)
    ·exact .inl (by go_simp)
    refine wpAnyR_takeL (i:=28) (kw:=4) (v:=undef) (fun _=>bl_refl _) (fun p q=>bl_trans p q) rfl rfl (by kernel_rfl) (by kernel_rfl) (by kernel_rfl) (by kernel_rfl) (fun _ _ _ h=>h) HC28 (Or.inr ⟨by kernel_rfl,rfl⟩) (fun HC29=>?_)
    refine wpAnyR_takeL (i:=29) (kw:=3) (v:=undef) (fun _=>bl_refl _) (fun p q=>bl_trans p q) rfl rfl (by kernel_rfl) (by kernel_rfl) (by kernel_rfl) (by kernel_rfl) (fun _ _ _ h=>h) HC29 (Or.inr ⟨by kernel_rfl,rfl⟩) (fun HC30=>?_)
    refine wpAnyR_takeL (i:=30) (kw:=2) (v:=undef) (fun _=>bl_refl _) (fun p q=>bl_trans p q) rfl rfl (by kernel_rfl) (by kernel_rfl) (by kernel_rfl) (by kernel_rfl) (fun _ _ _ h=>h) HC30 (Or.inr ⟨by kernel_rfl,rfl⟩) (fun HC31=>?_)
    refine wpAnyR_takeL (i:=31) (kw:=1) (v:=.bool false) (fun _=>bl_refl _) (fun p q=>bl_trans p q) rfl rfl (by kernel_rfl) (by kernel_rfl) (by kernel_rfl) (by kernel_rfl) (fun _ _ _ h=>h) HC31 (Or.inl ⟨by kernel_rfl,fun W' hI=>?_⟩) (fun HC32=>?_)
    ·exact .inl (by go_simp)
    refine wpAnyR_lastL (by kernel_rfl) (by kernel_rfl) rfl (by kernel_rfl) (fun wR hrR=>⟨bl_drewT hrR,?_⟩)
    intro K hK
    have BR:=Lib.hid (bl_drewT hrR)
    clear hrR
    go_simp
    refine hK _ _ ?_
    clear hK K
    go_wp2_with fail
    go_ret
    exact ⟨ret_bool HF.out.symm,bl_trans B.out BR.out⟩
   rcases r3 with _ | _
   ·have HF : Hid (ok = false):=Lib.hid (by
     rcases ok with _ | _
     ·rfl
     ·have g:=HNO.out rfl;simp at g)
    refine wp_region_W (last:=32) (k:=32) hmx rfl (fun HC0=>?_)
    refine wpAnyR_takeL (i:=0) (kw:=11) (v:=.bool true) (fun _=>bl_refl _) (fun p q=>bl_trans p q) rfl rfl (by kernel_rfl) (by kernel_rfl) (by kernel_rfl) (by kernel_rfl) (fun _ _ _ h=>h) HC0 (Or.inl ⟨by kernel_rfl,fun W' hI=>?_⟩) (fun HC1=>?_)
    ·exact .inl (by go_simp)
    refine wpAnyR_takeL (i:=1) (kw:=10) (v:=.bool true) (fun _=>bl_refl _) (fun p q=>bl_trans p q) rfl rfl (by kernel_rfl) (by kernel_rfl) (by kernel_rfl) (by kernel_rfl) (fun _ _ _ h=>h) HC1 (Or.inl ⟨by kernel_rfl,fun W' hI=>?_⟩) (fun HC2=>?_)
    ·exact .inl (by go_simp)
    refine wpAnyR_takeL (i:=2) (kw:=13) (v:=.agg #[.slice L.a1 b.st.length L.c1,.slice L.a2 b.bt.length L.c2,.slice L.a3 b.pd.length L.c3,.slice L.a4 b.fo.length L.c4,.slice L.a5 b.ac.length L.c5,.int .i64 b.tu,.int .i64 b.un,.int .i64 b.ra,.int .i64 b.li]) (fun _=>bl_refl _) (fun p q=>bl_trans p q) rfl rfl (by kernel_rfl) (by kernel_rfl) (by kernel_rfl) (by kernel_rfl) (fun _ _ _ h=>h) HC2 (Or.inl ⟨by kernel_rfl,fun W' hI=>?_⟩) (fun HC3=>?_)
    ·have hv:=(BT.out.blk).below hI
     obtain ⟨z0,_⟩:=hv.cell 0 _ rfl
     obtain ⟨z1,_⟩:=hv.cell 1 _ rfl
     obtain ⟨z2,_⟩:=hv.cell 2 _ rfl
     obtain ⟨z3,_⟩:=hv.cell 3 _ rfl
     obtain ⟨z4,_⟩:=hv.cell 4 _ rfl
     obtain ⟨z5,_⟩:=hv.cell 5 _ rfl
     obtain ⟨z6,_⟩:=hv.cell 6 _ rfl
     obtain ⟨z7,_⟩:=hv.cell 7 _ rfl
     obtain ⟨z8,_⟩:=hv.cell 8 _ rfl
     exact .inl (by go_simp)
    refine wpAnyR_takeL (i:=3) (kw:=12) (v:=.int .i64 p) (fun _=>bl_refl _) (fun p q=>bl_trans p q) rfl rfl (by kernel_rfl) (by kernel_rfl) (by kernel_rfl) (by kernel_rfl) (fun _ _ _ h=>h) HC3 (Or.inl ⟨by kernel_rfl,fun W' hI=>?_⟩) (fun HC4=>?_)
    ·exact .inr ⟨81,#[.agg #[.slice L.a1 b.st.length L.c1,.slice L.a2 b.bt.length L.c2,.slice L.a3 b.pd.length L.c3,.slice L.a4 b.fo.length L.c4,.slice L.a5 b.ac.length L.c5,.int .i64 b.tu,.int .i64 b.un,.int .i64 b.ra,.int .i64 b.li]],by go_simp,KP.out W' (BT.out.below hI).rd⟩
    refine wpAnyR_takeL (i:=4) (kw:=14) (v:=.pointer (some ⟨w.heap.size,0,none⟩)) (fun _=>bl_refl _) (fun p q=>bl_trans p q) rfl rfl (by kernel_rfl) (by kernel_rfl) (by kernel_rfl) (by kernel_rfl) (fun _ _ _ h=>h) HC4 (Or.inl ⟨by kernel_rfl,fun W' hI=>?_⟩) (fun HC5=>?_)
    ·exact .inl (by go_simp)
    refine wpAnyR_takeL (i:=5) (kw:=13) (v:=.slice L.a1 b.st.length L.c1) (fun _=>bl_refl _) (fun p q=>bl_trans p q) rfl rfl (by kernel_rfl) (by kernel_rfl) (by kernel_rfl) (by kernel_rfl) (fun _ _ _ h=>h) HC5 (Or.inl ⟨by kernel_rfl,fun W' hI=>?_⟩) (fun HC6=>?_)
    ·have hv:=(BT.out.blk).below hI
     obtain ⟨z0,_⟩:=hv.cell 0 _ rfl
     exact .inl (by go_simp)
    refine wpAnyR_takeL (i:=6) (kw:=12) (v:=.int .i64 x1) (fun _=>bl_refl _) (fun p q=>bl_trans p q) rfl rfl (by kernel_rfl) (by kernel_rfl) (by kernel_rfl) (by kernel_rfl) (fun _ _ _ h=>h) HC6 (Or.inl ⟨by kernel_rfl,fun W' hI=>?_⟩) (fun HC7=>?_)
    ·exact .inr ⟨82,#[.slice L.a1 b.st.length L.c1],by go_simp,(KS.out W' (BT.out.below hI).rd).mono fun e w' h=>⟨h.1,by rw [← h.2];exact bl_refl _⟩⟩
    refine wpAnyR_takeL (i:=7) (kw:=11) (v:=.int .i64 (p + x1)) (fun _=>bl_refl _) (fun p q=>bl_trans p q) rfl rfl (by kernel_rfl) (by kernel_rfl) (by kernel_rfl) (by kernel_rfl) (fun _ _ _ h=>h) HC7 (Or.inl ⟨by kernel_rfl,fun W' hI=>?_⟩) (fun HC8=>?_)
    ·exact .inl (by go_simp;first | done | exact IntWalk.i64_in _ (by omega))
    refine wpAnyR_takeL (i:=8) (kw:=10) (v:=.bool true) (fun _=>bl_refl _) (fun p q=>bl_trans p q) rfl rfl (by kernel_rfl) (by kernel_rfl) (by kernel_rfl) (by kernel_rfl) (fun _ _ _ h=>h) HC8 (Or.inl ⟨by kernel_rfl,fun W' hI=>?_⟩) (fun HC9=>?_)
    ·exact .inl (by go_simp)
    refine wpAnyR_takeL (i:=9) (kw:=9) (v:=.bool true) (fun _=>bl_refl _) (fun p q=>bl_trans p q) rfl rfl (by kernel_rfl) (by kernel_rfl) (by kernel_rfl) (by kernel_rfl) (fun _ _ _ h=>h) HC9 (Or.inl ⟨by kernel_rfl,fun W' hI=>?_⟩) (fun HC10=>?_)
    ·exact .inl (by go_simp)
    refine wpAnyR_takeL (i:=10) (kw:=8) (v:=.bool true) (fun _=>bl_refl _) (fun p q=>bl_trans p q) rfl rfl (by kernel_rfl) (by kernel_rfl) (by kernel_rfl) (by kernel_rfl) (fun _ _ _ h=>h) HC10 (Or.inl ⟨by kernel_rfl,fun W' hI=>?_⟩) (fun HC11=>?_)
    ·exact .inl (by go_simp)
    refine wpAnyR_takeL (i:=11) (kw:=10) (v:=.pointer (some ⟨w.heap.size,5,none⟩)) (fun _=>bl_refl _) (fun p q=>bl_trans p q) rfl rfl (by kernel_rfl) (by kernel_rfl) (by kernel_rfl) (by kernel_rfl) (fun _ _ _ h=>h) HC11 (Or.inl ⟨by kernel_rfl,fun W' hI=>?_⟩) (fun HC12=>?_)
    ·exact .inl (by go_simp)
    refine wpAnyR_takeL (i:=12) (kw:=9) (v:=.int .i64 b.tu) (fun _=>bl_refl _) (fun p q=>bl_trans p q) rfl rfl (by kernel_rfl) (by kernel_rfl) (by kernel_rfl) (by kernel_rfl) (fun _ _ _ h=>h) HC12 (Or.inl ⟨by kernel_rfl,fun W' hI=>?_⟩) (fun HC13=>?_)
    ·have hv:=(BT.out.blk).below hI
     obtain ⟨z5,_⟩:=hv.cell 5 _ rfl
     exact .inl (by go_simp)
    refine wpAnyR_takeL (i:=13) (kw:=10) (v:=.int .i64 b.st.length) (fun _=>bl_refl _) (fun p q=>bl_trans p q) rfl rfl (by kernel_rfl) (by kernel_rfl) (by kernel_rfl) (by kernel_rfl) (fun _ _ _ h=>h) HC13 (Or.inl ⟨by kernel_rfl,fun W' hI=>?_⟩) (fun HC14=>?_)
    ·exact .inl (by go_simp)
    refine wpAnyR_takeL (i:=14) (kw:=9) (v:=.int .i64 (b.st.length - 1)) (fun _=>bl_refl _) (fun p q=>bl_trans p q) rfl rfl (by kernel_rfl) (by kernel_rfl) (by kernel_rfl) (by kernel_rfl) (fun _ _ _ h=>h) HC14 (Or.inl ⟨by kernel_rfl,fun W' hI=>?_⟩) (fun HC15=>?_)
    ·exact .inl (by go_simp;first | done | exact IntWalk.i64_in _ (by omega))
    refine wpAnyR_takeL (i:=15) (kw:=8) (v:=.bool true) (fun _=>bl_refl _) (fun p q=>bl_trans p q) rfl rfl (by kernel_rfl) (by kernel_rfl) (by kernel_rfl) (by kernel_rfl) (fun _ _ _ h=>h) HC15 (Or.inl ⟨by kernel_rfl,fun W' hI=>?_⟩) (fun HC16=>?_)
    ·exact .inr ⟨79,#[.int .i64 b.tu,.int .i64 0,.int .i64 (b.st.length - 1)],by go_simp,(KT.out W').mono fun e w' h=>⟨h.1,by rw [← h.2];exact bl_refl _⟩⟩
    refine wpAnyR_takeL (i:=16) (kw:=7) (v:=.bool true) (fun _=>bl_refl _) (fun p q=>bl_trans p q) rfl rfl (by kernel_rfl) (by kernel_rfl) (by kernel_rfl) (by kernel_rfl) (fun _ _ _ h=>h) HC16 (Or.inl ⟨by kernel_rfl,fun W' hI=>?_⟩) (fun HC17=>?_)
    ·exact .inl (by go_simp)
    refine wpAnyR_takeL (i:=17) (kw:=6) (v:=.bool true) (fun _=>bl_refl _) (fun p q=>bl_trans p q) rfl rfl (by kernel_rfl) (by kernel_rfl) (by kernel_rfl) (by kernel_rfl) (fun _ _ _ h=>h) HC17 (Or.inl ⟨by kernel_rfl,fun W' hI=>?_⟩) (fun HC18=>?_)
    ·exact .inl (by go_simp)
    refine wpAnyR_takeL (i:=18) (kw:=8) (v:=.pointer (some ⟨w.heap.size,6,none⟩)) (fun _=>bl_refl _) (fun p q=>bl_trans p q) rfl rfl (by kernel_rfl) (by kernel_rfl) (by kernel_rfl) (by kernel_rfl) (fun _ _ _ h=>h) HC18 (Or.inl ⟨by kernel_rfl,fun W' hI=>?_⟩) (fun HC19=>?_)
    ·exact .inl (by go_simp)
    refine wpAnyR_takeL (i:=19) (kw:=7) (v:=.int .i64 b.un) (fun _=>bl_refl _) (fun p q=>bl_trans p q) rfl rfl (by kernel_rfl) (by kernel_rfl) (by kernel_rfl) (by kernel_rfl) (fun _ _ _ h=>h) HC19 (Or.inl ⟨by kernel_rfl,fun W' hI=>?_⟩) (fun HC20=>?_)
    ·have hv:=(BT.out.blk).below hI
     obtain ⟨z6,_⟩:=hv.cell 6 _ rfl
     exact .inl (by go_simp)
    refine wpAnyR_takeL (i:=20) (kw:=6) (v:=.bool true) (fun _=>bl_refl _) (fun p q=>bl_trans p q) rfl rfl (by kernel_rfl) (by kernel_rfl) (by kernel_rfl) (by kernel_rfl) (fun _ _ _ h=>h) HC20 (Or.inl ⟨by kernel_rfl,fun W' hI=>?_⟩) (fun HC21=>?_)
    ·exact .inr ⟨79,#[.int .i64 b.un,.int .i64 1,.int .i64 100000],by go_simp,(KU.out W').mono fun e w' h=>⟨h.1,by rw [← h.2];exact bl_refl _⟩⟩
    refine wpAnyR_takeL (i:=21) (kw:=5) (v:=.bool true) (fun _=>bl_refl _) (fun p q=>bl_trans p q) rfl rfl (by kernel_rfl) (by kernel_rfl) (by kernel_rfl) (by kernel_rfl) (fun _ _ _ h=>h) HC21 (Or.inl ⟨by kernel_rfl,fun W' hI=>?_⟩) (fun HC22=>?_)
    ·exact .inl (by go_simp)
    refine wpAnyR_takeL (i:=22) (kw:=4) (v:=.bool true) (fun _=>bl_refl _) (fun p q=>bl_trans p q) rfl rfl (by kernel_rfl) (by kernel_rfl) (by kernel_rfl) (by kernel_rfl) (fun _ _ _ h=>h) HC22 (Or.inl ⟨by kernel_rfl,fun W' hI=>?_⟩) (fun HC23=>?_)
    ·exact .inl (by go_simp)
    refine wpAnyR_takeL (i:=23) (kw:=6) (v:=.pointer (some ⟨w.heap.size,7,none⟩)) (fun _=>bl_refl _) (fun p q=>bl_trans p q) rfl rfl (by kernel_rfl) (by kernel_rfl) (by kernel_rfl) (by kernel_rfl) (fun _ _ _ h=>h) HC23 (Or.inl ⟨by kernel_rfl,fun W' hI=>?_⟩) (fun HC24=>?_)
    ·exact .inl (by go_simp)
    refine wpAnyR_takeL (i:=24) (kw:=5) (v:=.int .i64 b.ra) (fun _=>bl_refl _) (fun p q=>bl_trans p q) rfl rfl (by kernel_rfl) (by kernel_rfl) (by kernel_rfl) (by kernel_rfl) (fun _ _ _ h=>h) HC24 (Or.inl ⟨by kernel_rfl,fun W' hI=>?_⟩) (fun HC25=>?_)
    ·have hv:=(BT.out.blk).below hI
     obtain ⟨z7,_⟩:=hv.cell 7 _ rfl
     exact .inl (by go_simp)
    refine wpAnyR_takeL (i:=25) (kw:=4) (v:=.bool false) (fun _=>bl_refl _) (fun p q=>bl_trans p q) rfl rfl (by kernel_rfl) (by kernel_rfl) (by kernel_rfl) (by kernel_rfl) (fun _ _ _ h=>h) HC25 (Or.inl ⟨by kernel_rfl,fun W' hI=>?_⟩) (fun HC26=>?_)
    ·exact .inr ⟨79,#[.int .i64 b.ra,.int .i64 0,.int .i64 4],by go_simp,(KR.out W').mono fun e w' h=>⟨h.1,by rw [← h.2];exact bl_refl _⟩⟩
    refine wpAnyR_takeL (i:=26) (kw:=3) (v:=.bool false) (fun _=>bl_refl _) (fun p q=>bl_trans p q) rfl rfl (by kernel_rfl) (by kernel_rfl) (by kernel_rfl) (by kernel_rfl) (fun _ _ _ h=>h) HC26 (Or.inl ⟨by kernel_rfl,fun W' hI=>?_⟩) (fun HC27=>?_)
    ·exact .inl (by go_simp)
    refine wpAnyR_takeL (i:=27) (kw:=2) (v:=.bool false) (fun _=>bl_refl _) (fun p q=>bl_trans p q) rfl rfl (by kernel_rfl) (by kernel_rfl) (by kernel_rfl) (by kernel_rfl) (fun _ _ _ h=>h) HC27 (Or.inl ⟨by kernel_rfl,fun W' hI=>?_⟩) (fun HC28=>?_)
    ·exact .inl (by go_simp)
    refine wpAnyR_takeL (i:=28) (kw:=4) (v:=undef) (fun _=>bl_refl _) (fun p q=>bl_trans p q) rfl rfl (by kernel_rfl) (by kernel_rfl) (by kernel_rfl) (by kernel_rfl) (fun _ _ _ h=>h) HC28 (Or.inr ⟨by kernel_rfl,rfl⟩) (fun HC29=>?_)
    refine wpAnyR_takeL (i:=29) (kw:=3) (v:=undef) (fun _=>bl_refl _) (fun p q=>bl_trans p q) rfl rfl (by kernel_rfl) (by kernel_rfl) (by kernel_rfl) (by kernel_rfl) (fun _ _ _ h=>h) HC29 (Or.inr ⟨by kernel_rfl,rfl⟩) (fun HC30=>?_)
    refine wpAnyR_takeL (i:=30) (kw:=2) (v:=undef) (fun _=>bl_refl _) (fun p q=>bl_trans p q) rfl rfl (by kernel_rfl) (by kernel_rfl) (by kernel_rfl) (by kernel_rfl) (fun _ _ _ h=>h) HC30 (Or.inr ⟨by kernel_rfl,rfl⟩) (fun HC31=>?_)
    refine wpAnyR_takeL (i:=31) (kw:=1) (v:=.bool false) (fun _=>bl_refl _) (fun p q=>bl_trans p q) rfl rfl (by kernel_rfl) (by kernel_rfl) (by kernel_rfl) (by kernel_rfl) (fun _ _ _ h=>h) HC31 (Or.inl ⟨by kernel_rfl,fun W' hI=>?_⟩) (fun HC32=>?_)
    ·exact .inl (by go_simp)
    refine wpAnyR_lastL (by kernel_rfl) (by kernel_rfl) rfl (by kernel_rfl) (fun wR hrR=>⟨bl_drewT hrR,?_⟩)
    intro K hK
    have BR:=Lib.hid (bl_drewT hrR)
    clear hrR
    go_simp
    refine hK _ _ ?_
    clear hK K
    go_wp2_with fail
    go_ret
    exact ⟨ret_bool HF.out.symm,bl_trans B.out BR.out⟩
   ·have HF : Hid (ok = r4):=Lib.hid (by
     rcases r4 with _ | _
     ·rcases ok with _ | _
      ·rfl
      ·have g:=HNO.out rfl;simp at g
     ·exact HOK.out rfl g2 rfl rfl rfl rfl)
    refine wp_region_W (last:=32) (k:=32) hmx rfl (fun HC0=>?_)
    refine wpAnyR_takeL (i:=0) (kw:=11) (v:=.bool true) (fun _=>bl_refl _) (fun p q=>bl_trans p q) rfl rfl (by kernel_rfl) (by kernel_rfl) (by kernel_rfl) (by kernel_rfl) (fun _ _ _ h=>h) HC0 (Or.inl ⟨by kernel_rfl,fun W' hI=>?_⟩) (fun HC1=>?_)
    ·exact .inl (by go_simp)
    refine wpAnyR_takeL (i:=1) (kw:=10) (v:=.bool true) (fun _=>bl_refl _) (fun p q=>bl_trans p q) rfl rfl (by kernel_rfl) (by kernel_rfl) (by kernel_rfl) (by kernel_rfl) (fun _ _ _ h=>h) HC1 (Or.inl ⟨by kernel_rfl,fun W' hI=>?_⟩) (fun HC2=>?_)
    ·exact .inl (by go_simp)
    refine wpAnyR_takeL (i:=2) (kw:=13) (v:=.agg #[.slice L.a1 b.st.length L.c1,.slice L.a2 b.bt.length L.c2,.slice L.a3 b.pd.length L.c3,.slice L.a4 b.fo.length L.c4,.slice L.a5 b.ac.length L.c5,.int .i64 b.tu,.int .i64 b.un,.int .i64 b.ra,.int .i64 b.li]) (fun _=>bl_refl _) (fun p q=>bl_trans p q) rfl rfl (by kernel_rfl) (by kernel_rfl) (by kernel_rfl) (by kernel_rfl) (fun _ _ _ h=>h) HC2 (Or.inl ⟨by kernel_rfl,fun W' hI=>?_⟩) (fun HC3=>?_)
    ·have hv:=(BT.out.blk).below hI
     obtain ⟨z0,_⟩:=hv.cell 0 _ rfl
     obtain ⟨z1,_⟩:=hv.cell 1 _ rfl
     obtain ⟨z2,_⟩:=hv.cell 2 _ rfl
     obtain ⟨z3,_⟩:=hv.cell 3 _ rfl
     obtain ⟨z4,_⟩:=hv.cell 4 _ rfl
     obtain ⟨z5,_⟩:=hv.cell 5 _ rfl
     obtain ⟨z6,_⟩:=hv.cell 6 _ rfl
     obtain ⟨z7,_⟩:=hv.cell 7 _ rfl
     obtain ⟨z8,_⟩:=hv.cell 8 _ rfl
     exact .inl (by go_simp)
    refine wpAnyR_takeL (i:=3) (kw:=12) (v:=.int .i64 p) (fun _=>bl_refl _) (fun p q=>bl_trans p q) rfl rfl (by kernel_rfl) (by kernel_rfl) (by kernel_rfl) (by kernel_rfl) (fun _ _ _ h=>h) HC3 (Or.inl ⟨by kernel_rfl,fun W' hI=>?_⟩) (fun HC4=>?_)
    ·exact .inr ⟨81,#[.agg #[.slice L.a1 b.st.length L.c1,.slice L.a2 b.bt.length L.c2,.slice L.a3 b.pd.length L.c3,.slice L.a4 b.fo.length L.c4,.slice L.a5 b.ac.length L.c5,.int .i64 b.tu,.int .i64 b.un,.int .i64 b.ra,.int .i64 b.li]],by go_simp,KP.out W' (BT.out.below hI).rd⟩
    refine wpAnyR_takeL (i:=4) (kw:=14) (v:=.pointer (some ⟨w.heap.size,0,none⟩)) (fun _=>bl_refl _) (fun p q=>bl_trans p q) rfl rfl (by kernel_rfl) (by kernel_rfl) (by kernel_rfl) (by kernel_rfl) (fun _ _ _ h=>h) HC4 (Or.inl ⟨by kernel_rfl,fun W' hI=>?_⟩) (fun HC5=>?_)
    ·exact .inl (by go_simp)
    refine wpAnyR_takeL (i:=5) (kw:=13) (v:=.slice L.a1 b.st.length L.c1) (fun _=>bl_refl _) (fun p q=>bl_trans p q) rfl rfl (by kernel_rfl) (by kernel_rfl) (by kernel_rfl) (by kernel_rfl) (fun _ _ _ h=>h) HC5 (Or.inl ⟨by kernel_rfl,fun W' hI=>?_⟩) (fun HC6=>?_)
    ·have hv:=(BT.out.blk).below hI
     obtain ⟨z0,_⟩:=hv.cell 0 _ rfl
     exact .inl (by go_simp)
    refine wpAnyR_takeL (i:=6) (kw:=12) (v:=.int .i64 x1) (fun _=>bl_refl _) (fun p q=>bl_trans p q) rfl rfl (by kernel_rfl) (by kernel_rfl) (by kernel_rfl) (by kernel_rfl) (fun _ _ _ h=>h) HC6 (Or.inl ⟨by kernel_rfl,fun W' hI=>?_⟩) (fun HC7=>?_)
    ·exact .inr ⟨82,#[.slice L.a1 b.st.length L.c1],by go_simp,(KS.out W' (BT.out.below hI).rd).mono fun e w' h=>⟨h.1,by rw [← h.2];exact bl_refl _⟩⟩
    refine wpAnyR_takeL (i:=7) (kw:=11) (v:=.int .i64 (p + x1)) (fun _=>bl_refl _) (fun p q=>bl_trans p q) rfl rfl (by kernel_rfl) (by kernel_rfl) (by kernel_rfl) (by kernel_rfl) (fun _ _ _ h=>h) HC7 (Or.inl ⟨by kernel_rfl,fun W' hI=>?_⟩) (fun HC8=>?_)
    ·exact .inl (by go_simp;first | done | exact IntWalk.i64_in _ (by omega))
    refine wpAnyR_takeL (i:=8) (kw:=10) (v:=.bool true) (fun _=>bl_refl _) (fun p q=>bl_trans p q) rfl rfl (by kernel_rfl) (by kernel_rfl) (by kernel_rfl) (by kernel_rfl) (fun _ _ _ h=>h) HC8 (Or.inl ⟨by kernel_rfl,fun W' hI=>?_⟩) (fun HC9=>?_)
    ·exact .inl (by go_simp)
    refine wpAnyR_takeL (i:=9) (kw:=9) (v:=.bool true) (fun _=>bl_refl _) (fun p q=>bl_trans p q) rfl rfl (by kernel_rfl) (by kernel_rfl) (by kernel_rfl) (by kernel_rfl) (fun _ _ _ h=>h) HC9 (Or.inl ⟨by kernel_rfl,fun W' hI=>?_⟩) (fun HC10=>?_)
    ·exact .inl (by go_simp)
    refine wpAnyR_takeL (i:=10) (kw:=8) (v:=.bool true) (fun _=>bl_refl _) (fun p q=>bl_trans p q) rfl rfl (by kernel_rfl) (by kernel_rfl) (by kernel_rfl) (by kernel_rfl) (fun _ _ _ h=>h) HC10 (Or.inl ⟨by kernel_rfl,fun W' hI=>?_⟩) (fun HC11=>?_)
    ·exact .inl (by go_simp)
    refine wpAnyR_takeL (i:=11) (kw:=10) (v:=.pointer (some ⟨w.heap.size,5,none⟩)) (fun _=>bl_refl _) (fun p q=>bl_trans p q) rfl rfl (by kernel_rfl) (by kernel_rfl) (by kernel_rfl) (by kernel_rfl) (fun _ _ _ h=>h) HC11 (Or.inl ⟨by kernel_rfl,fun W' hI=>?_⟩) (fun HC12=>?_)
    ·exact .inl (by go_simp)
    refine wpAnyR_takeL (i:=12) (kw:=9) (v:=.int .i64 b.tu) (fun _=>bl_refl _) (fun p q=>bl_trans p q) rfl rfl (by kernel_rfl) (by kernel_rfl) (by kernel_rfl) (by kernel_rfl) (fun _ _ _ h=>h) HC12 (Or.inl ⟨by kernel_rfl,fun W' hI=>?_⟩) (fun HC13=>?_)
    ·have hv:=(BT.out.blk).below hI
     obtain ⟨z5,_⟩:=hv.cell 5 _ rfl
     exact .inl (by go_simp)
    refine wpAnyR_takeL (i:=13) (kw:=10) (v:=.int .i64 b.st.length) (fun _=>bl_refl _) (fun p q=>bl_trans p q) rfl rfl (by kernel_rfl) (by kernel_rfl) (by kernel_rfl) (by kernel_rfl) (fun _ _ _ h=>h) HC13 (Or.inl ⟨by kernel_rfl,fun W' hI=>?_⟩) (fun HC14=>?_)
    ·exact .inl (by go_simp)
    refine wpAnyR_takeL (i:=14) (kw:=9) (v:=.int .i64 (b.st.length - 1)) (fun _=>bl_refl _) (fun p q=>bl_trans p q) rfl rfl (by kernel_rfl) (by kernel_rfl) (by kernel_rfl) (by kernel_rfl) (fun _ _ _ h=>h) HC14 (Or.inl ⟨by kernel_rfl,fun W' hI=>?_⟩) (fun HC15=>?_)
    ·exact .inl (by go_simp;first | done | exact IntWalk.i64_in _ (by omega))
    refine wpAnyR_takeL (i:=15) (kw:=8) (v:=.bool true) (fun _=>bl_refl _) (fun p q=>bl_trans p q) rfl rfl (by kernel_rfl) (by kernel_rfl) (by kernel_rfl) (by kernel_rfl) (fun _ _ _ h=>h) HC15 (Or.inl ⟨by kernel_rfl,fun W' hI=>?_⟩) (fun HC16=>?_)
    ·exact .inr ⟨79,#[.int .i64 b.tu,.int .i64 0,.int .i64 (b.st.length - 1)],by go_simp,(KT.out W').mono fun e w' h=>⟨h.1,by rw [← h.2];exact bl_refl _⟩⟩
    refine wpAnyR_takeL (i:=16) (kw:=7) (v:=.bool true) (fun _=>bl_refl _) (fun p q=>bl_trans p q) rfl rfl (by kernel_rfl) (by kernel_rfl) (by kernel_rfl) (by kernel_rfl) (fun _ _ _ h=>h) HC16 (Or.inl ⟨by kernel_rfl,fun W' hI=>?_⟩) (fun HC17=>?_)
    ·exact .inl (by go_simp)
    refine wpAnyR_takeL (i:=17) (kw:=6) (v:=.bool true) (fun _=>bl_refl _) (fun p q=>bl_trans p q) rfl rfl (by kernel_rfl) (by kernel_rfl) (by kernel_rfl) (by kernel_rfl) (fun _ _ _ h=>h) HC17 (Or.inl ⟨by kernel_rfl,fun W' hI=>?_⟩) (fun HC18=>?_)
    ·exact .inl (by go_simp)
    refine wpAnyR_takeL (i:=18) (kw:=8) (v:=.pointer (some ⟨w.heap.size,6,none⟩)) (fun _=>bl_refl _) (fun p q=>bl_trans p q) rfl rfl (by kernel_rfl) (by kernel_rfl) (by kernel_rfl) (by kernel_rfl) (fun _ _ _ h=>h) HC18 (Or.inl ⟨by kernel_rfl,fun W' hI=>?_⟩) (fun HC19=>?_)
    ·exact .inl (by go_simp)
    refine wpAnyR_takeL (i:=19) (kw:=7) (v:=.int .i64 b.un) (fun _=>bl_refl _) (fun p q=>bl_trans p q) rfl rfl (by kernel_rfl) (by kernel_rfl) (by kernel_rfl) (by kernel_rfl) (fun _ _ _ h=>h) HC19 (Or.inl ⟨by kernel_rfl,fun W' hI=>?_⟩) (fun HC20=>?_)
    ·have hv:=(BT.out.blk).below hI
     obtain ⟨z6,_⟩:=hv.cell 6 _ rfl
     exact .inl (by go_simp)
    refine wpAnyR_takeL (i:=20) (kw:=6) (v:=.bool true) (fun _=>bl_refl _) (fun p q=>bl_trans p q) rfl rfl (by kernel_rfl) (by kernel_rfl) (by kernel_rfl) (by kernel_rfl) (fun _ _ _ h=>h) HC20 (Or.inl ⟨by kernel_rfl,fun W' hI=>?_⟩) (fun HC21=>?_)
    ·exact .inr ⟨79,#[.int .i64 b.un,.int .i64 1,.int .i64 100000],by go_simp,(KU.out W').mono fun e w' h=>⟨h.1,by rw [← h.2];exact bl_refl _⟩⟩
    refine wpAnyR_takeL (i:=21) (kw:=5) (v:=.bool true) (fun _=>bl_refl _) (fun p q=>bl_trans p q) rfl rfl (by kernel_rfl) (by kernel_rfl) (by kernel_rfl) (by kernel_rfl) (fun _ _ _ h=>h) HC21 (Or.inl ⟨by kernel_rfl,fun W' hI=>?_⟩) (fun HC22=>?_)
    ·exact .inl (by go_simp)
    refine wpAnyR_takeL (i:=22) (kw:=4) (v:=.bool true) (fun _=>bl_refl _) (fun p q=>bl_trans p q) rfl rfl (by kernel_rfl) (by kernel_rfl) (by kernel_rfl) (by kernel_rfl) (fun _ _ _ h=>h) HC22 (Or.inl ⟨by kernel_rfl,fun W' hI=>?_⟩) (fun HC23=>?_)
    ·exact .inl (by go_simp)
    refine wpAnyR_takeL (i:=23) (kw:=6) (v:=.pointer (some ⟨w.heap.size,7,none⟩)) (fun _=>bl_refl _) (fun p q=>bl_trans p q) rfl rfl (by kernel_rfl) (by kernel_rfl) (by kernel_rfl) (by kernel_rfl) (fun _ _ _ h=>h) HC23 (Or.inl ⟨by kernel_rfl,fun W' hI=>?_⟩) (fun HC24=>?_)
    ·exact .inl (by go_simp)
    refine wpAnyR_takeL (i:=24) (kw:=5) (v:=.int .i64 b.ra) (fun _=>bl_refl _) (fun p q=>bl_trans p q) rfl rfl (by kernel_rfl) (by kernel_rfl) (by kernel_rfl) (by kernel_rfl) (fun _ _ _ h=>h) HC24 (Or.inl ⟨by kernel_rfl,fun W' hI=>?_⟩) (fun HC25=>?_)
    ·have hv:=(BT.out.blk).below hI
     obtain ⟨z7,_⟩:=hv.cell 7 _ rfl
     exact .inl (by go_simp)
    refine wpAnyR_takeL (i:=25) (kw:=4) (v:=.bool true) (fun _=>bl_refl _) (fun p q=>bl_trans p q) rfl rfl (by kernel_rfl) (by kernel_rfl) (by kernel_rfl) (by kernel_rfl) (fun _ _ _ h=>h) HC25 (Or.inl ⟨by kernel_rfl,fun W' hI=>?_⟩) (fun HC26=>?_)
    ·exact .inr ⟨79,#[.int .i64 b.ra,.int .i64 0,.int .i64 4],by go_simp,(KR.out W').mono fun e w' h=>⟨h.1,by rw [← h.2];exact bl_refl _⟩⟩
    refine wpAnyR_takeL (i:=26) (kw:=3) (v:=.bool true) (fun _=>bl_refl _) (fun p q=>bl_trans p q) rfl rfl (by kernel_rfl) (by kernel_rfl) (by kernel_rfl) (by kernel_rfl) (fun _ _ _ h=>h) HC26 (Or.inl ⟨by kernel_rfl,fun W' hI=>?_⟩) (fun HC27=>?_)
    ·exact .inl (by go_simp)
    refine wpAnyR_takeL (i:=27) (kw:=2) (v:=.bool true) (fun _=>bl_refl _) (fun p q=>bl_trans p q) rfl rfl (by kernel_rfl) (by kernel_rfl) (by kernel_rfl) (by kernel_rfl) (fun _ _ _ h=>h) HC27 (Or.inl ⟨by kernel_rfl,fun W' hI=>?_⟩) (fun HC28=>?_)
    ·exact .inl (by go_simp)
    refine wpAnyR_takeL (i:=28) (kw:=4) (v:=.pointer (some ⟨w.heap.size,8,none⟩)) (fun _=>bl_refl _) (fun p q=>bl_trans p q) rfl rfl (by kernel_rfl) (by kernel_rfl) (by kernel_rfl) (by kernel_rfl) (fun _ _ _ h=>h) HC28 (Or.inl ⟨by kernel_rfl,fun W' hI=>?_⟩) (fun HC29=>?_)
    ·exact .inl (by go_simp)
    refine wpAnyR_takeL (i:=29) (kw:=3) (v:=.int .i64 b.li) (fun _=>bl_refl _) (fun p q=>bl_trans p q) rfl rfl (by kernel_rfl) (by kernel_rfl) (by kernel_rfl) (by kernel_rfl) (fun _ _ _ h=>h) HC29 (Or.inl ⟨by kernel_rfl,fun W' hI=>?_⟩) (fun HC30=>?_)
    ·have hv:=(BT.out.blk).below hI
     obtain ⟨z8,_⟩:=hv.cell 8 _ rfl
     exact .inl (by go_simp)
    refine wpAnyR_takeL (i:=30) (kw:=2) (v:=.bool r4) (fun _=>bl_refl _) (fun p q=>bl_trans p q) rfl rfl (by kernel_rfl) (by kernel_rfl) (by kernel_rfl) (by kernel_rfl) (fun _ _ _ h=>h) HC30 (Or.inl ⟨by kernel_rfl,fun W' hI=>?_⟩) (fun HC31=>?_)
    ·exact .inr ⟨79,#[.int .i64 b.li,.int .i64 0,.int .i64 2],by go_simp,(KL.out W').mono fun e w' h=>⟨h.1,by rw [← h.2];exact bl_refl _⟩⟩
    refine wpAnyR_takeL (i:=31) (kw:=1) (v:=.bool r4) (fun _=>bl_refl _) (fun p q=>bl_trans p q) rfl rfl (by kernel_rfl) (by kernel_rfl) (by kernel_rfl) (by kernel_rfl) (fun _ _ _ h=>h) HC31 (Or.inl ⟨by kernel_rfl,fun W' hI=>?_⟩) (fun HC32=>?_)
    ·exact .inl (by go_simp)
    refine wpAnyR_lastL (by kernel_rfl) (by kernel_rfl) rfl (by kernel_rfl) (fun wR hrR=>⟨bl_drewT hrR,?_⟩)
    intro K hK
    have BR:=Lib.hid (bl_drewT hrR)
    clear hrR
    go_simp
    refine hK _ _ ?_
    clear hK K
    go_wp2_with fail
    go_ret
    exact ⟨ret_bool HF.out.symm,bl_trans B.out BR.out⟩
end Go.Proofs.Ytnllndcajdofjaa
