/-
  The program: open rounds, sums of chips, the choices.
-/
import Derived.Test.YthgfohdjpfhebaaBetD
import Derived.Test.YthgfohdjpfhebaaAnyL
import Derived.Test.YthgfohdjpfhebaaStoreB
namespace Go.Proofs.Ythgfohdjpfhebaa
open Go.RowKit
set_option linter.unusedVariables false

theorem wp_store_at {P : Program} {o : Oper} {a : Act} {w : World} {K : Act → World → Prop} {Q : Exit → Act → World → Prop} (t : TypeId) (x y : Operand) (ho : o.op = .store t x y)
    (hi : (P.info? t).map (·.size) = some 1) (g i : Nat) (hx : a.eval x = .pointer (some ⟨g, i, none⟩)) (v : Value) (hy : a.eval y = v) (h1 : v.oneCell' = true) (T : TypeId) (vs : List Value) (hB : Blk w g T vs) (hl : i < vs.length)
    (h : ∀ w', Blk w' g T (vs.set i v) → w.grownBy w' (some g) → K (a.put o.dst undef) w') : o.wp P a w K Q := by
  obtain ⟨hc, hf⟩ := hB.cell i _ (List.getElem?_eq_getElem hl)
  unfold Oper.wp execOp
  simp only [ho, hx, hy, Instr.storeAt, Instr.sureAddr, Sem.run_bind, Sem.run_pure, Result.andThen_ok, run_store1 w _ t v _ hi h1 hc hf]
  obtain ⟨k1, k2⟩ := blk_set hB i v
  exact h _ k1 k2
theorem wp_region_W {P : Program} {ops : Array Oper} {Q : Exit → Act → World → Prop} {last : Nat} {id k : Nat} {a : Act} {w : World} (hm : P.follows .mixedOrders = true) (hk : ops.size = k + 1)
    (h : closedB .any ops (Array.replicate ops.size false) → wpAnyR P .any ops (fun a b => Below a.heap.size a b) (fun W' => Below w.heap.size w W') last Q k (Array.replicate ops.size false) a w.drew) : (Code.region id ops true).wp P Q a w := wp_region_R (fun _ => bl_refl _) hm hk h
set_option maxRecDepth 100000 in
set_option maxHeartbeats 2000000 in
theorem implIsOpen_any (L : At5) (b : Bt) (w : World) (h : Rd5 w L b) :
    Calls Try.prog 21 #[bV L b] w (Fresh (.bool (okB b && openB b)) w) := by
  have BT := btAt_new h
  have B := Lib.hid (bl_box (w := w) (L := L) (b := b))
  have KV := Lib.hid (fun (W : World) (hb : Below w.heap.size w W) => implIsBetting_any L b W (h.below hb))
  have KH := Lib.hid (fun (k : Ok b) (i : Nat) (hi : b.tu = i) (W : World) (hb : Below (w.alloc (.cells (btL L b).toArray 27)).heap.size (w.alloc (.cells (btL L b).toArray 27)) W) => fresh_of_qt (hasToAct_any w.heap.size L b i W (BT.below hb) k.sd (by have := k.t1; omega)))
  obtain ⟨q0, _⟩ := BT.blk.cell 0 _ rfl
  obtain ⟨q1, _⟩ := BT.blk.cell 1 _ rfl
  obtain ⟨q2, _⟩ := BT.blk.cell 2 _ rfl
  obtain ⟨q3, _⟩ := BT.blk.cell 3 _ rfl
  obtain ⟨q4, _⟩ := BT.blk.cell 4 _ rfl
  obtain ⟨q5, _⟩ := BT.blk.cell 5 _ rfl
  obtain ⟨q6, _⟩ := BT.blk.cell 6 _ rfl
  obtain ⟨q7, _⟩ := BT.blk.cell 7 _ rfl
  obtain ⟨q8, _⟩ := BT.blk.cell 8 _ rfl
  have BN := Lib.hid BT
  have BR0 := Lib.hid (bl_refl (w.alloc (.cells (btL L b).toArray 27)))
  have HOP : Hid (openB b = mustB b b.tu.toNat) := Lib.hid rfl
  clear h BT
  rcases hv : okB b with _ | _
  · rw [hv] at KV
    clear KH HOP
    unfold bV at *
    go_enter Try.func21, Try.ntmps21
    go_wp2_with (first
        | (go_at_call 22; refine (KV.out _ B.out).mono ?_; rintro e wn ⟨rfl, hb⟩; have Ba := Lib.hid (bl_trans B.out hb)))
    go_ret
    exact ⟨rfl, Ba.out⟩
  · have k := ok_of hv
    obtain ⟨i, hi⟩ := Int.eq_ofNat_of_zero_le k.t0
    have KK := Lib.hid (KH.out k i hi)
    have HM : Hid (openB b = mustB b i) := Lib.hid (by rw [HOP.out, hi]; rfl)
    rw [hv] at KV
    rw [HM.out]
    clear HOP KH k hv HM
    have HI := Lib.hid hi
    clear hi
    unfold bV at *
    generalize mustB b i = r at *
    go_enter Try.func21, Try.ntmps21
    go_wp2_with (first
        | (go_at_call 22; refine (KV.out _ B.out).mono ?_; rintro e wn ⟨rfl, hb⟩; have HB := Lib.hid hb; have Ba := Lib.hid (bl_trans B.out hb); obtain ⟨q5a, _⟩ := (BN.out.below hb).blk.cell 5 _ rfl; rw [HI.out] at q5a)
        | (go_at_call 78; refine (KK.out _ HB.out).mono ?_; rintro e wm ⟨rfl, hb2⟩; have Bb := Lib.hid (bl_trans Ba.out hb2)))
    go_ret
    exact ⟨ret_bool (by simp), Bb.out⟩
noncomputable def potIR (b : Bt) : Int := if okB b = true then potI b else 0
noncomputable def okC (b : Bt) : Int := if okB b = true then 0 else 1
set_option maxRecDepth 100000 in
set_option maxHeartbeats 2000000 in
theorem implPotIn_any (L : At5) (b : Bt) (w : World) (h : Rd5 w L b) :
    Calls Try.prog 31 #[bV L b] w (Fresh (pairV (potIR b) (okC b)) w) := by
  have BT := btAt_new h
  have B := Lib.hid (bl_box (w := w) (L := L) (b := b))
  have KV := Lib.hid (fun (W : World) (hb : Below w.heap.size w W) => implIsBetting_any L b W (h.below hb))
  have KH := Lib.hid (fun (k : Ok b) (W : World) (hb : Below (w.alloc (.cells (btL L b).toArray 27)).heap.size (w.alloc (.cells (btL L b).toArray 27)) W) => fresh_of_qt (pot_any w.heap.size L b W (BT.below hb) (by have := k.n6; have := k.l2; omega) (by have := k.n6; have := k.l3; omega) k.s2 k.s3))
  obtain ⟨q0, _⟩ := BT.blk.cell 0 _ rfl
  obtain ⟨q1, _⟩ := BT.blk.cell 1 _ rfl
  obtain ⟨q2, _⟩ := BT.blk.cell 2 _ rfl
  obtain ⟨q3, _⟩ := BT.blk.cell 3 _ rfl
  obtain ⟨q4, _⟩ := BT.blk.cell 4 _ rfl
  obtain ⟨q5, _⟩ := BT.blk.cell 5 _ rfl
  obtain ⟨q6, _⟩ := BT.blk.cell 6 _ rfl
  obtain ⟨q7, _⟩ := BT.blk.cell 7 _ rfl
  obtain ⟨q8, _⟩ := BT.blk.cell 8 _ rfl
  clear h BT
  rcases hv : okB b with _ | _
  · have e1 : potIR b = 0 := by unfold potIR; rw [hv]; rfl
    have e2 : okC b = 1 := by unfold okC; rw [hv]; rfl
    rw [hv] at KV
    rw [e1, e2]
    clear KH hv e1 e2
    unfold bV at *
    go_enter Try.func31, Try.ntmps31
    go_wp2_with (first
        | (go_at_call 22; refine (KV.out _ B.out).mono ?_; rintro e wn ⟨rfl, hb⟩; have Ba := Lib.hid (bl_trans B.out hb)))
    go_ret2
    exact ⟨rfl, Ba.out⟩
  · have e1 : potIR b = potI b := by unfold potIR; rw [hv]; rfl
    have e2 : okC b = 0 := by unfold okC; rw [hv]; rfl
    have KK := Lib.hid (KH.out (ok_of hv))
    rw [hv] at KV
    rw [e1, e2]
    clear KH hv e1 e2
    unfold bV at *
    generalize potI b = r at *
    go_enter Try.func31, Try.ntmps31
    go_wp2_with (first
        | (go_at_call 22; refine (KV.out _ B.out).mono ?_; rintro e wn ⟨rfl, hb⟩; have HB := Lib.hid hb; have Ba := Lib.hid (bl_trans B.out hb))
        | (go_at_call 104; refine (KK.out _ HB.out).mono ?_; rintro e wm ⟨rfl, hb2⟩; have Bb := Lib.hid (bl_trans Ba.out hb2)))
    go_ret2
    exact ⟨rfl, Bb.out⟩
noncomputable def allIR (b : Bt) : Int := if okB b = true then allI b else 0
set_option maxRecDepth 100000 in
set_option maxHeartbeats 2000000 in
theorem implChipsIn_any (L : At5) (b : Bt) (w : World) (h : Rd5 w L b) :
    Calls Try.prog 30 #[bV L b] w (Fresh (pairV (allIR b) (okC b)) w) := by
  have BT := btAt_new h
  have B := Lib.hid (bl_box (w := w) (L := L) (b := b))
  have KV := Lib.hid (fun (W : World) (hb : Below w.heap.size w W) => implIsBetting_any L b W (h.below hb))
  have KH := Lib.hid (fun (k : Ok b) (W : World) (hb : Below (w.alloc (.cells (btL L b).toArray 27)).heap.size (w.alloc (.cells (btL L b).toArray 27)) W) => fresh_of_qt (chips_any w.heap.size L b W (BT.below hb) k.n6 (by have := k.n6; have := k.l2; omega) (by have := k.n6; have := k.l3; omega) k.s1 k.s2 k.s3))
  obtain ⟨q0, _⟩ := BT.blk.cell 0 _ rfl
  obtain ⟨q1, _⟩ := BT.blk.cell 1 _ rfl
  obtain ⟨q2, _⟩ := BT.blk.cell 2 _ rfl
  obtain ⟨q3, _⟩ := BT.blk.cell 3 _ rfl
  obtain ⟨q4, _⟩ := BT.blk.cell 4 _ rfl
  obtain ⟨q5, _⟩ := BT.blk.cell 5 _ rfl
  obtain ⟨q6, _⟩ := BT.blk.cell 6 _ rfl
  obtain ⟨q7, _⟩ := BT.blk.cell 7 _ rfl
  obtain ⟨q8, _⟩ := BT.blk.cell 8 _ rfl
  clear h BT
  rcases hv : okB b with _ | _
  · have e1 : allIR b = 0 := by unfold allIR; rw [hv]; rfl
    have e2 : okC b = 1 := by unfold okC; rw [hv]; rfl
    rw [hv] at KV
    rw [e1, e2]
    clear KH hv e1 e2
    unfold bV at *
    go_enter Try.func30, Try.ntmps30
    go_wp2_with (first
        | (go_at_call 22; refine (KV.out _ B.out).mono ?_; rintro e wn ⟨rfl, hb⟩; have Ba := Lib.hid (bl_trans B.out hb)))
    go_ret2
    exact ⟨rfl, Ba.out⟩
  · have e1 : allIR b = allI b := by unfold allIR; rw [hv]; rfl
    have e2 : okC b = 0 := by unfold okC; rw [hv]; rfl
    have KK := Lib.hid (KH.out (ok_of hv))
    rw [hv] at KV
    rw [e1, e2]
    clear KH hv e1 e2
    unfold bV at *
    generalize allI b = r at *
    go_enter Try.func30, Try.ntmps30
    go_wp2_with (first
        | (go_at_call 22; refine (KV.out _ B.out).mono ?_; rintro e wn ⟨rfl, hb⟩; have HB := Lib.hid hb; have Ba := Lib.hid (bl_trans B.out hb))
        | (go_at_call 103; refine (KK.out _ HB.out).mono ?_; rintro e wm ⟨rfl, hb2⟩; have Bb := Lib.hid (bl_trans Ba.out hb2)))
    go_ret2
    exact ⟨rfl, Bb.out⟩
set_option maxRecDepth 100000 in
set_option maxHeartbeats 4000000 in
theorem choices_any (g : Nat) (L : At5) (b : Bt) (w : World) (h : BtAt w g L b) (k : Ok b) :
    Calls Try.prog 79 #[.pointer (some ⟨g, 0, none⟩)] w (Fresh (chV (checkB b) (callI b) (leastI b) (mostI b)) w) := by
  have KM := Lib.hid (fun (W : World) (hb : Below w.heap.size w W) => fresh_of_qt (missing_any g L b W (h.below hb) k))
  have KC := Lib.hid (fun (W : World) (hb : Below w.heap.size w W) => fresh_of_qt (callSize_any g L b W (h.below hb) k))
  have KR := Lib.hid (fun (W : World) (hb : Below w.heap.size w W) => fresh_of_qt (canRaise_any g L b W (h.below hb) k))
  have KX := Lib.hid (fun (W : World) (hb : Below w.heap.size w W) => fresh_of_qt (mostRaise_any g L b W (h.below hb) k))
  have KT := Lib.hid (fun (W : World) (hb : Below w.heap.size w W) => fresh_of_qt (qt_of_same (betToMatchS_any g L b W (h.below hb) k.sd)))
  have HT := Lib.hid (fun (W : World) (hb : Below w.heap.size w W) => (h.below hb).blk)
  have hmx : Try.prog.follows .mixedOrders = true := by kernel_rfl
  have iC : (Try.prog.info? 30).map (·.size) = some 4 := by kernel_rfl
  have uC := Try.underlying30
  have i1 : (Try.prog.info? 2).map (·.size) = some 1 := by kernel_rfl
  have u1 := top_bd k.sd
  have u2 := k.u0
  have u3 := k.u1
  have HQ : Hid (∀ W : World, Below w.heap.size w W → W.cell? ⟨g, 6, none⟩ = some (.int .i64 b.un)) := Lib.hid (fun W hb => ((h.below hb).blk.cell 6 _ rfl).1)
  have HK : Hid (checkB b = (missI b == 0)) := Lib.hid rfl
  have N0 := Lib.hid (blk_new w 30 [.bool false, .int .i64 0, .int .i64 0, .int .i64 0])
  have B := Lib.hid (bl_alloc (bl_refl w) (.cells ([.bool false, .int .i64 0, .int .i64 0, .int .i64 0] : List Value).toArray 30))
  have HML : Hid (mostI b = if mayB b = true then mostR b else 0) := Lib.hid rfl
  have HLL : Hid (leastI b = if mayB b = true then minT (mostR b) (topI b + b.un) else 0) := Lib.hid rfl
  have KN := Lib.hid (fun W : World => minT_any (mostR b) (topI b + b.un) W)
  clear h k
  rw [HK.out]
  clear HK
  generalize missI b = m at *
  generalize callI b = c at *
  generalize mostI b = mo at *
  generalize leastI b = le at *
  generalize mostR b = mr at *
  generalize mayB b = my at *
  rcases my with _ | _
  · obtain rfl : mo = 0 := HML.out
    obtain rfl : le = 0 := HLL.out
    clear HML HLL KN
    go_enter Try.func79, Try.ntmps79
    go_wp2_with (first
        | (go_at_call 138; refine (KM.out _ B.out).mono ?_; rintro e w1 ⟨rfl, hb⟩; have N0a := Lib.hid (N0.out.below hb); have Ba := Lib.hid (bl_trans B.out hb); clear N0 B hb)
        | (go_at_call 139; refine (KC.out _ Ba.out).mono ?_; rintro e w2 ⟨rfl, hb⟩; have ZL := Lib.hid (N0a.out.below hb).lt; have N0b := Lib.hid ((N0a.out.below hb).below (bl_alloc (bl_refl w2) (.cells ([.bool (m == 0), .int .i64 c, .int .i64 0, .int .i64 0] : List Value).toArray 30))); have Bb := Lib.hid (bl_alloc (bl_trans Ba.out hb) (.cells ([.bool (m == 0), .int .i64 c, .int .i64 0, .int .i64 0] : List Value).toArray 30)); have N1 := Lib.hid (blk_new w2 30 [.bool (m == 0), .int .i64 c, .int .i64 0, .int .i64 0]); clear N0a Ba hb)
        | (go_at_call 140; refine (KR.out _ Bb.out).mono ?_; rintro e w3 ⟨rfl, hb⟩; have N0c := Lib.hid (N0b.out.below hb); have N1c := Lib.hid (N1.out.below hb); have Bc := Lib.hid (bl_trans Bb.out hb); clear N0b N1 Bb hb)
        | (with_reducible refine wpList_load_blk 30 _ 4 rfl (.tmp 3) rfl uC rfl iC w2.heap.size 0 rfl [.bool (m == 0), .int .i64 c, .int .i64 0, .int .i64 0] rfl N1c.out.range ?_)
        | (refine wpList_store_blk 30 4 rfl (.tmp 2) (.tmp 26) rfl iC w.heap.size rfl [.bool (m == 0), .int .i64 c, .int .i64 0, .int .i64 0] rfl rfl (by simp [Value.oneCell']) _ N0c.out rfl ?_; intro w9 k9 g9; have B9 := Lib.hid (below_grown1 Bc.out g9 (Nat.le_refl _))))
    obtain ⟨z0, _⟩ := k9.cell 0 _ rfl
    obtain ⟨z1, _⟩ := k9.cell 1 _ rfl
    obtain ⟨z2, _⟩ := k9.cell 2 _ rfl
    obtain ⟨z3, _⟩ := k9.cell 3 _ rfl
    exact bodyPost_ret (v := .agg #[.bool (m == 0), .int .i64 c, .int .i64 0, .int .i64 0]) (by simp [results, Try.results79, go_sem, z0, z1, z2, z3]) rfl ⟨rfl, B9.out⟩
  · obtain rfl : mo = mr := HML.out
    obtain rfl : le = minT mo (topI b + b.un) := HLL.out
    clear HML HLL
    generalize topI b = t at *
    generalize b.un = u at *
    go_enter Try.func79, Try.ntmps79
    go_wp2_with (first
        | (go_at_call 138; refine (KM.out _ B.out).mono ?_; rintro e w1 ⟨rfl, hb⟩; have N0a := Lib.hid (N0.out.below hb); have Ba := Lib.hid (bl_trans B.out hb); clear N0 B hb)
        | (go_at_call 139; refine (KC.out _ Ba.out).mono ?_; rintro e w2 ⟨rfl, hb⟩; have ZL := Lib.hid (N0a.out.below hb).lt; have N0b := Lib.hid ((N0a.out.below hb).below (bl_alloc (bl_refl w2) (.cells ([.bool (m == 0), .int .i64 c, .int .i64 0, .int .i64 0] : List Value).toArray 30))); have Bb := Lib.hid (bl_alloc (bl_trans Ba.out hb) (.cells ([.bool (m == 0), .int .i64 c, .int .i64 0, .int .i64 0] : List Value).toArray 30)); have N1 := Lib.hid (blk_new w2 30 [.bool (m == 0), .int .i64 c, .int .i64 0, .int .i64 0]); clear N0a Ba hb)
        | (go_at_call 140; refine (KR.out _ Bb.out).mono ?_; rintro e w3 ⟨rfl, hb⟩; have N0c := Lib.hid (N0b.out.below hb); have N1c := Lib.hid (N1.out.below hb); have Bc := Lib.hid (bl_trans Bb.out hb); clear N0b N1 Bb hb)
        | (go_at_call 141; refine (KX.out _ Bc.out).mono ?_; rintro e w4 ⟨rfl, hb⟩; have N0d := Lib.hid (N0c.out.below hb); have N1d := Lib.hid (N1c.out.below hb); have Bd := Lib.hid (bl_trans Bc.out hb); clear N0c N1c Bc hb)
        | ((with_reducible refine wpList_store_at 2 rfl (.tmp 14) (.tmp 13) rfl i1 w2.heap.size 3 rfl (.int .i64 mo) rfl rfl _ _ N1d.out ?_ ?_); (exact (by simp)); intro w5 k5 g5; have N0e := Lib.hid (N0d.out.grown g5 (fun e => by have := ZL.out; have e2 := Option.some.inj e; omega)); have N1e : Hid (Blk w5 w2.heap.size 30 [.bool (m == 0), .int .i64 c, .int .i64 0, .int .i64 mo]) := Lib.hid k5; have Be := Lib.hid (below_grown1 Bd.out g5 (Nat.le_of_lt ZL.out)); clear k5 g5 N0d N1d Bd))
    have HU : Hid (∀ W', Below w5.heap.size w5 W' → W'.cell? ⟨g, 6, none⟩ = some (.int .i64 u)) := Lib.hid (fun W' hI => (HQ.out W' (bl_trans Be.out hI)))
    refine wp_region_W (last := 11) (k := 11) hmx rfl (fun HC0 => ?_)
    refine wpAnyR_takeL (i := 0) (kw := 3) (v := .pointer (some ⟨w2.heap.size, 3, none⟩)) (fun _ => bl_refl _) (fun p q => bl_trans p q) rfl rfl (by kernel_rfl) (by kernel_rfl) (by kernel_rfl) (by kernel_rfl) (fun _ _ _ h => h) HC0 (Or.inl ⟨by kernel_rfl, fun W' hI => ?_⟩) (fun HC1 => ?_)
    · exact .inl (by go_simp)
    refine wpAnyR_takeL (i := 1) (kw := 2) (v := .int .i64 mo) (fun _ => bl_refl _) (fun p q => bl_trans p q) rfl rfl (by kernel_rfl) (by kernel_rfl) (by kernel_rfl) (by kernel_rfl) (fun _ _ _ h => h) HC1 (Or.inl ⟨by kernel_rfl, fun W' hI => ?_⟩) (fun HC2 => ?_)
    · have hv := (N1e.out).below hI
      obtain ⟨z3, _⟩ := hv.cell 3 _ rfl
      exact .inl (by go_simp)
    refine wpAnyR_takeL (i := 2) (kw := 4) (v := .pointer (some ⟨g, 0, none⟩)) (fun _ => bl_refl _) (fun p q => bl_trans p q) rfl rfl (by kernel_rfl) (by kernel_rfl) (by kernel_rfl) (by kernel_rfl) (fun _ _ _ h => h) HC2 (Or.inl ⟨by kernel_rfl, fun W' hI => ?_⟩) (fun HC3 => ?_)
    · exact .inl (by go_simp)
    refine wpAnyR_takeL (i := 3) (kw := 3) (v := .int .i64 t) (fun _ => bl_refl _) (fun p q => bl_trans p q) rfl rfl (by kernel_rfl) (by kernel_rfl) (by kernel_rfl) (by kernel_rfl) (fun _ _ _ h => h) HC3 (Or.inl ⟨by kernel_rfl, fun W' hI => ?_⟩) (fun HC4 => ?_)
    · exact .inr ⟨136, #[.pointer (some ⟨g, 0, none⟩)], by go_simp, KT.out W' (bl_trans Be.out hI)⟩
    refine wpAnyR_takeL (i := 4) (kw := 6) (v := .pointer (some ⟨g, 0, none⟩)) (fun _ => bl_refl _) (fun p q => bl_trans p q) rfl rfl (by kernel_rfl) (by kernel_rfl) (by kernel_rfl) (by kernel_rfl) (fun _ _ _ h => h) HC4 (Or.inl ⟨by kernel_rfl, fun W' hI => ?_⟩) (fun HC5 => ?_)
    · exact .inl (by go_simp)
    refine wpAnyR_takeL (i := 5) (kw := 5) (v := .pointer (some ⟨g, 0, none⟩)) (fun _ => bl_refl _) (fun p q => bl_trans p q) rfl rfl (by kernel_rfl) (by kernel_rfl) (by kernel_rfl) (by kernel_rfl) (fun _ _ _ h => h) HC5 (Or.inl ⟨by kernel_rfl, fun W' hI => ?_⟩) (fun HC6 => ?_)
    · exact .inl (by go_simp)
    refine wpAnyR_takeL (i := 6) (kw := 4) (v := .pointer (some ⟨g, 6, none⟩)) (fun _ => bl_refl _) (fun p q => bl_trans p q) rfl rfl (by kernel_rfl) (by kernel_rfl) (by kernel_rfl) (by kernel_rfl) (fun _ _ _ h => h) HC6 (Or.inl ⟨by kernel_rfl, fun W' hI => ?_⟩) (fun HC7 => ?_)
    · exact .inl (by go_simp)
    refine wpAnyR_takeL (i := 7) (kw := 3) (v := .int .i64 u) (fun _ => bl_refl _) (fun p q => bl_trans p q) rfl rfl (by kernel_rfl) (by kernel_rfl) (by kernel_rfl) (by kernel_rfl) (fun _ _ _ h => h) HC7 (Or.inl ⟨by kernel_rfl, fun W' hI => ?_⟩) (fun HC8 => ?_)
    · have hx := HU.out W' hI
      exact .inl (by go_simp)
    refine wpAnyR_takeL (i := 8) (kw := 2) (v := .int .i64 (t + u)) (fun _ => bl_refl _) (fun p q => bl_trans p q) rfl rfl (by kernel_rfl) (by kernel_rfl) (by kernel_rfl) (by kernel_rfl) (fun _ _ _ h => h) HC8 (Or.inl ⟨by kernel_rfl, fun W' hI => ?_⟩) (fun HC9 => ?_)
    · exact .inl (by go_simp; first | done | exact IntWalk.i64_in _ (by omega))
    refine wpAnyR_takeL (i := 9) (kw := 1) (v := .int .i64 (minT mo (t + u))) (fun _ => bl_refl _) (fun p q => bl_trans p q) rfl rfl (by kernel_rfl) (by kernel_rfl) (by kernel_rfl) (by kernel_rfl) (fun _ _ _ h => h) HC9 (Or.inl ⟨by kernel_rfl, fun W' hI => ?_⟩) (fun HC10 => ?_)
    · exact .inr ⟨142, #[.int .i64 mo, .int .i64 (t + u)], by go_simp, (KN.out W').mono fun e w' h => ⟨h.1, by rw [← h.2]; exact bl_refl _⟩⟩
    refine wpAnyR_takeL (i := 10) (kw := 1) (v := .pointer (some ⟨w2.heap.size, 2, none⟩)) (fun _ => bl_refl _) (fun p q => bl_trans p q) rfl rfl (by kernel_rfl) (by kernel_rfl) (by kernel_rfl) (by kernel_rfl) (fun _ _ _ h => h) HC10 (Or.inl ⟨by kernel_rfl, fun W' hI => ?_⟩) (fun HC11 => ?_)
    · exact .inl (by go_simp)
    refine wpAnyR_lastL (by kernel_rfl) (by kernel_rfl) rfl (by kernel_rfl) (fun wR hrR => ⟨bl_drewT hrR, ?_⟩)
    intro K hK
    have BR := Lib.hid (bl_drewT hrR)
    clear hrR
    have N1f := N1e.out.below BR.out
    have N0f := N0e.out.below BR.out
    try simp only [Act.put, List.setIfInBounds_toArray, List.set_cons_succ, List.set_cons_zero]
    refine wp_store_at 2 (.tmp 25) (.tmp 24) rfl i1 w2.heap.size 2 rfl (.int .i64 (minT mo (t + u))) rfl rfl _ _ N1f (by simp) (fun w6 k5 g5 => ?_)
    refine hK _ _ ?_
    clear hK K
    have N0g := Lib.hid (N0f.grown g5 (fun e => by have := ZL.out; have e2 := Option.some.inj e; omega))
    have N1g : Hid (Blk w6 w2.heap.size 30 [.bool (m == 0), .int .i64 c, .int .i64 (minT mo (t + u)), .int .i64 mo]) := Lib.hid k5
    have Bg := Lib.hid (below_grown1 (bl_trans Be.out BR.out) g5 (Nat.le_of_lt ZL.out))
    clear k5 g5 N0f N1f N0e N1e Be BR
    go_wp2_with (first
        | (with_reducible refine wpList_load_blk 30 _ 4 rfl (.tmp 3) rfl uC rfl iC w2.heap.size 0 rfl [.bool (m == 0), .int .i64 c, .int .i64 (minT mo (t + u)), .int .i64 mo] rfl N1g.out.range ?_)
        | (refine wpList_store_blk 30 4 rfl (.tmp 2) (.tmp 26) rfl iC w.heap.size rfl [.bool (m == 0), .int .i64 c, .int .i64 (minT mo (t + u)), .int .i64 mo] rfl rfl (by simp [Value.oneCell']) _ N0g.out rfl ?_; intro w9 k9 g9; have B9 := Lib.hid (below_grown1 Bg.out g9 (Nat.le_refl _))))
    obtain ⟨z0, _⟩ := k9.cell 0 _ rfl
    obtain ⟨z1, _⟩ := k9.cell 1 _ rfl
    obtain ⟨z2, _⟩ := k9.cell 2 _ rfl
    obtain ⟨z3, _⟩ := k9.cell 3 _ rfl
    exact bodyPost_ret (v := .agg #[.bool (m == 0), .int .i64 c, .int .i64 (minT mo (t + u)), .int .i64 mo]) (by simp [results, Try.results79, go_sem, z0, z1, z2, z3]) rfl ⟨rfl, B9.out⟩
end Go.Proofs.Ythgfohdjpfhebaa
