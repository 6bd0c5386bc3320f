/-
  Put together, what this law needs of: BetD, StoreB, BetE.
-/
import Derived.Test.YtnllndcajdofjaaQaBetAG
import Derived.Test.YtnllndcajdofjaaQaAnySG
namespace Go.Proofs.Ytnllndcajdofjaa
open Go.RowKit
set_option linter.unusedVariables false

/-- The three lists of chips. -/
def lsB (b : Bt) : Nat → List Int
  | 0 => b.st
  | 1 => b.bt
  | _ => b.pd
def slB (L : At5) (b : Bt) : Nat → Value
  | 0 => .slice L.a1 b.st.length L.c1
  | 1 => .slice L.a2 b.bt.length L.c2
  | _ => .slice L.a3 b.pd.length L.c3
theorem u3s : Try.prog.underlying 134 = some (.array 3 24) := by kernel_rfl
theorem i3s : (Try.prog.info? 24).map (·.size) = some 1 := by kernel_rfl
set_option maxRecDepth 100000 in
theorem run_index3 (L : At5) (b : Bt) (k : Nat) (hk : k < 3) (W : World) : (Instr.index 134 (.agg #[.slice L.a1 b.st.length L.c1, .slice L.a2 b.bt.length L.c2, .slice L.a3 b.pd.length L.c3]) (.int .i64 k)).run Try.prog W = .ok (slB L b k) W := by
  obtain ⟨i0, hi, hz⟩ : ∃ i, Try.prog.info? 24 = some i ∧ i.size = 1 := by
    cases h : Try.prog.info? 24 with
    | none => have := i3s; rw [h] at this; cases this
    | some i => have := i3s; rw [h] at this; exact ⟨i, rfl, Option.some.inj this⟩
  rcases (by omega : k = 0 ∨ k = 1 ∨ k = 2) with rfl | rfl | rfl <;>
    simp [Instr.index, run_underlying u3s, go_sem, sizeOf, typeInfo, hi, hz, part, isAgg, run_underlying Try.underlying24, slB]
def hcB (b : Bt) : Bool := (sumsB (lsB b 0) && sumsB (lsB b 1) && sumsB (lsB b 2)) && inB (allI b) 0 600000
theorem hcB_no {b : Bt} (k : Nat) (hk : k < 3) (h : sumsB (lsB b k) = false) : hcB b = false := by
  unfold hcB
  rcases (by omega : k = 0 ∨ k = 1 ∨ k = 2) with rfl | rfl | rfl <;> simp [h]
theorem hcB_yes {b : Bt} (h : ∀ k, k < 3 → sumsB (lsB b k) = true) : hcB b = inB (allI b) 0 600000 := by
  unfold hcB; rw [h 0 (by omega), h 1 (by omega), h 2 (by omega)]; rfl
set_option maxRecDepth 100000 in
set_option maxHeartbeats 4000000 in
theorem hasChips_any (g : Nat) (L : At5) (b : Bt) (w : World) (h : BtAt w g L b) (l1 : b.st.length ≤ 6) (l2 : b.bt.length ≤ 6) (l3 : b.pd.length ≤ 6) :
    Calls Try.prog 76 #[.pointer (some ⟨g, 0, none⟩)] w (Qt (.bool (hcB b)) w) := by
  have KA := Lib.hid (fun n k (hk : k < 3) => (show Calls Try.prog 140 #[slB L b k, .func (.func 141) #[] #[]] (w.drewN n) (Same (.bool (sumsB (lsB b k))) (w.drewN n)) from by
    rcases (by omega : k = 0 ∨ k = 1 ∨ k = 2) with rfl | rfl | rfl
    · exact areSums_any L.a1 L.c1 b.st _ (h.drew n).rd.r1 (by show b.st.length ≤ _; omega)
    · exact areSums_any L.a2 L.c2 b.bt _ (h.drew n).rd.r2 (by show b.bt.length ≤ _; omega)
    · exact areSums_any L.a3 L.c3 b.pd _ (h.drew n).rd.r3 (by show b.pd.length ≤ _; omega)))
  have KC := Lib.hid (fun n (hs : ∀ k, k < 3 → sumsB (lsB b k) = true) => chips_any g L b (w.drewN n) (h.drew n) l1 l2 l3 (sumsB_iff.1 (hs 0 (by omega))) (sumsB_iff.1 (hs 1 (by omega))) (sumsB_iff.1 (hs 2 (by omega))))
  have KI := Lib.hid (fun W => isChipSum_any (allI b) W)
  have HI := Lib.hid (fun k (hk : k < 3) => run_index3 L b k hk)
  obtain ⟨q0, _⟩ := h.blk.cell 0 _ rfl
  obtain ⟨q1, _⟩ := h.blk.cell 1 _ rfl
  obtain ⟨q2, _⟩ := h.blk.cell 2 _ rfl
  clear h
  have HEF := Lib.hid (hcB_yes (b := b))
  generalize allI b = t at *
  go_enter Try.func76, Try.ntmps76
  go_wp2_with fail
  go_quiet (fail)
  go_wp2_with fail
  go_loop [18] (fun q => ∃ k : Nat, k ≤ 3 ∧ q = .int .i64 k ∧ Hid (∀ j, j < k → sumsB (lsB b j) = true)) (fun q => 3 - (intOf q).toNat)
  case atStart => exact ⟨0, by omega, rfl, Lib.hid (fun j hj => by omega)⟩
  case round =>
    obtain ⟨k, hk, rfl, hs⟩ := hrel
    by_cases hlt : k < 3
    · have hlt' : (k : Int) < 3 := by omega
      have HX := HI.out k hlt
      have KK := Lib.hid (fun n => KA.out n k hlt)
      rcases hb : sumsB (lsB b k) with _ | _
      · have HF := Lib.hid (hcB_no k hlt hb)
        rw [hb] at KK
        clear hs hb
        generalize slB L b k = v at *
        go_wp2_with (go_at_call 140; refine (KK.out _).mono ?_; rintro e wn ⟨rfl, rfl⟩)
        go_ret
        exact ⟨ret_bool HF.out.symm, _, rfl⟩
      · have HN : Hid (∀ j, j < k + 1 → sumsB (lsB b j) = true) := Lib.hid (fun j hj => by
          by_cases e : j = k
          · subst e; exact hb
          · exact hs.out j (by omega))
        rw [hb] at KK
        clear hs hb
        generalize slB L b k = v at *
        go_wp2_with (go_at_call 140; refine (KK.out _).mono ?_; rintro e wn ⟨rfl, rfl⟩)
        go_round
        case rel =>
          first
          | exact ⟨k + 1, by omega, by go_num, HN⟩
          | (refine ⟨_, _, _, ?_, rfl, rfl, rfl⟩; exact ⟨k + 1, by omega, by go_num, HN⟩)
        case measure => simp [intOf]; omega
    · obtain rfl : k = 3 := by omega
      have HE := Lib.hid (HEF.out hs.out)
      have KK := Lib.hid (fun n => KC.out n hs.out)
      clear hs KC KA HI
      go_wp2_with (first
        | (go_at_call 92; refine (KK.out _).mono ?_; rintro e wn ⟨rfl, m, rfl⟩; rw [World.drewN_drewN])
        | (go_at_call 141; refine (KI.out _).mono ?_; rintro e wn ⟨rfl, rfl⟩))
      go_ret
      exact ⟨ret_bool HE.out.symm, _, rfl⟩
/-- Which rounds are valid, in the program's order. -/
theorem okB_parts {b : Bt} : okB b = (seatsB b && hcB b && inB b.un 1 100000 && inB b.ra 0 4 && inB b.li 0 2) := by
  rcases h : (seatsB b && hcB b && inB b.un 1 100000 && inB b.ra 0 4 && inB b.li 0 2) with _ | _
  · refine ok_no fun k => ?_
    have s : seatsB b = true := by
      rw [seatsB_yes ⟨k.n2, k.n6, k.t0, k.t1, k.l2, k.l3, k.l4, k.l5⟩]
      unfold someF
      obtain ⟨i, hi, e⟩ := k.live
      rw [decide_eq_false (fun q => by have := q i (by rw [k.l4]; exact hi); rw [e] at this; cases this)]; rfl
    have c : hcB b = true := by
      rw [hcB_yes (fun j hj => by
        rcases (by omega : j = 0 ∨ j = 1 ∨ j = 2) with rfl | rfl | rfl
        · exact sumsB_iff.2 k.s1
        · exact sumsB_iff.2 k.s2
        · exact sumsB_iff.2 k.s3)]
      have u1 := sumT_bdC b.st k.s1 _ (Nat.le_refl _)
      have u2 := sumT_bdC b.bt k.s2 _ (Nat.le_refl _)
      have u3 := sumT_bdC b.pd k.s3 _ (Nat.le_refl _)
      exact inB_yes _ _ _ (by unfold allI potI; omega) k.sum
    rw [s, c, inB_yes _ _ _ k.u0 k.u1, inB_yes _ _ _ k.r0 k.r1, inB_yes _ _ _ k.i0 k.i1] at h
    cases h
  · simp only [Bool.and_eq_true] at h
    obtain ⟨⟨⟨⟨h1, h2⟩, h3⟩, h4⟩, h5⟩ := h
    unfold seatsB at h1
    rw [Bool.and_eq_true] at h1
    obtain ⟨h1, h6⟩ := h1
    obtain ⟨n2, n6, t0, t1, l2, l3, l4, l5⟩ := of_decide_eq_true h1
    unfold hcB at h2
    rw [Bool.and_eq_true] at h2
    obtain ⟨h2, h7⟩ := h2
    rw [Bool.and_eq_true, Bool.and_eq_true] at h2
    obtain ⟨⟨g0, g1⟩, g2⟩ := h2
    have h3 : 1 ≤ b.un ∧ b.un ≤ 100000 := by unfold inB at h3; exact of_decide_eq_true h3
    have h4 : 0 ≤ b.ra ∧ b.ra ≤ 4 := by unfold inB at h4; exact of_decide_eq_true h4
    have h5 : 0 ≤ b.li ∧ b.li ≤ 2 := by unfold inB at h5; exact of_decide_eq_true h5
    have h7 : 0 ≤ allI b ∧ allI b ≤ 600000 := by unfold inB at h7; exact of_decide_eq_true h7
    refine ok_yes ⟨n2, n6, t0, t1, l2, l3, l4, l5, ?_, sumsB_iff.1 g0, sumsB_iff.1 g1, sumsB_iff.1 g2, h7.2, h3.1, h3.2, h4.1, h4.2, h5.1, h5.2⟩
    refine Classical.byContradiction fun q => ?_
    unfold someF at h6
    rw [decide_eq_true (fun i hi => by
      rcases e : nthB b.fo i with _ | _
      · exact absurd ⟨i, by omega, e⟩ q
      · rfl)] at h6
    cases h6
/-- A new box of a round. -/
theorem btAt_new {w : World} {L : At5} {b : Bt} (h : Rd5 w L b) : BtAt (w.alloc (.cells (btL L b).toArray 27)) w.heap.size L b := ⟨blk_new w _ _, h.below (bl_alloc (bl_refl w) _)⟩
theorem bl_box {w : World} {L : At5} {b : Bt} : Below w.heap.size w (w.alloc (.cells (btL L b).toArray 27)) := bl_alloc (bl_refl w) _
set_option maxRecDepth 100000 in
set_option maxHeartbeats 4000000 in
theorem implIsBetting_any (L : At5) (b : Bt) (w : World) (h : Rd5 w L b) :
    Calls Try.prog 17 #[bV L b] w (Fresh (.bool (okB b)) w) := by
  have BT := btAt_new h
  have B := Lib.hid (bl_box (w := w) (L := L) (b := b))
  have KS := Lib.hid (fun n => hasSeats_any w.heap.size L b _ (BT.drew n))
  have KH := Lib.hid (fun n (k : SeatsP b) => hasChips_any w.heap.size L b _ (BT.drew n) k.2.1 (by have := k.2.2.2.2.1; have := k.2.1; omega) (by have := k.2.2.2.2.2.1; have := k.2.1; omega))
  have KU := Lib.hid (fun W => isStack_any b.un W)
  have KL := Lib.hid (fun W => isLimit_any b.li W)
  have HO := Lib.hid (okB_parts (b := b))
  obtain ⟨q6, _⟩ := BT.blk.cell 6 _ rfl
  obtain ⟨q7, _⟩ := BT.blk.cell 7 _ rfl
  obtain ⟨q8, _⟩ := BT.blk.cell 8 _ rfl
  clear h BT
  unfold bV
  generalize okB b = r at *
  generalize inB b.un 1 100000 = r2 at *
  generalize inB b.li 0 2 = r4 at *
  rcases hs : seatsB b with _ | _
  · rw [hs] at KS HO
    have HV : Hid (r = false) := Lib.hid (by rw [HO.out]; rfl)
    clear hs HO
    go_enter Try.func17, Try.ntmps17
    go_wp2_with (first
        | (go_at_call 75; refine (KS.out 0).mono ?_; rintro e wn ⟨rfl, m1, rfl⟩; rw [World.drewN_drewN]))
    go_ret
    exact ⟨ret_bool HV.out.symm, bl_drewN B.out _⟩
  have kp : SeatsP b := by unfold seatsB at hs; rw [Bool.and_eq_true] at hs; exact of_decide_eq_true hs.1
  have KK := Lib.hid (fun n => KH.out n kp)
  rw [hs] at KS HO
  clear hs kp KH
  generalize hcB b = r1 at *
  rcases r1 with _ | _
  · have HV : Hid (r = false) := Lib.hid (by rw [HO.out]; rfl)
    clear HO
    go_enter Try.func17, Try.ntmps17
    go_wp2_with (first
        | (go_at_call 75; refine (KS.out 0).mono ?_; rintro e wn ⟨rfl, m1, rfl⟩; rw [World.drewN_drewN])
        | (go_at_call 76; refine (KK.out _).mono ?_; rintro e wn ⟨rfl, m2, rfl⟩; rw [World.drewN_drewN]))
    go_ret
    exact ⟨ret_bool HV.out.symm, bl_drewN B.out _⟩
  rcases r2 with _ | _
  · have HV : Hid (r = false) := Lib.hid (by rw [HO.out]; rfl)
    clear HO
    go_enter Try.func17, Try.ntmps17
    go_wp2_with (first
        | (go_at_call 75; refine (KS.out 0).mono ?_; rintro e wn ⟨rfl, m1, rfl⟩; rw [World.drewN_drewN])
        | (go_at_call 76; refine (KK.out _).mono ?_; rintro e wn ⟨rfl, m2, rfl⟩; rw [World.drewN_drewN])
        | (go_at_call 77; refine (KU.out _).mono ?_; rintro e wn ⟨rfl, rfl⟩))
    go_ret
    exact ⟨ret_bool HV.out.symm, bl_drewN B.out _⟩
  by_cases c1 : 0 ≤ b.ra
  rotate_left
  · have HV : Hid (r = false) := Lib.hid (by rw [HO.out, inB_lo b.ra 0 4 (by omega)]; rfl)
    have c2 : decide (0 ≤ b.ra) = false := decide_eq_false c1
    clear HO
    go_enter Try.func17, Try.ntmps17
    go_wp2_with (first
        | (go_at_call 75; refine (KS.out 0).mono ?_; rintro e wn ⟨rfl, m1, rfl⟩; rw [World.drewN_drewN])
        | (go_at_call 76; refine (KK.out _).mono ?_; rintro e wn ⟨rfl, m2, rfl⟩; rw [World.drewN_drewN])
        | (go_at_call 77; refine (KU.out _).mono ?_; rintro e wn ⟨rfl, rfl⟩))
    go_ret
    exact ⟨ret_bool HV.out.symm, bl_drewN B.out _⟩
  have c2 : decide (0 ≤ b.ra) = true := decide_eq_true c1
  by_cases c3 : b.ra ≤ 4
  rotate_left
  · have HV : Hid (r = false) := Lib.hid (by rw [HO.out, show inB b.ra 0 4 = false from decide_eq_false (by omega)]; rfl)
    have c4 : decide (b.ra ≤ 4) = false := decide_eq_false c3
    clear HO
    go_enter Try.func17, Try.ntmps17
    go_wp2_with (first
        | (go_at_call 75; refine (KS.out 0).mono ?_; rintro e wn ⟨rfl, m1, rfl⟩; rw [World.drewN_drewN])
        | (go_at_call 76; refine (KK.out _).mono ?_; rintro e wn ⟨rfl, m2, rfl⟩; rw [World.drewN_drewN])
        | (go_at_call 77; refine (KU.out _).mono ?_; rintro e wn ⟨rfl, rfl⟩))
    go_ret
    exact ⟨ret_bool HV.out.symm, bl_drewN B.out _⟩
  · have HV : Hid (r = r4) := Lib.hid (by rw [HO.out, inB_yes b.ra 0 4 c1 c3]; simp)
    have c4 : decide (b.ra ≤ 4) = true := decide_eq_true c3
    clear HO
    go_enter Try.func17, Try.ntmps17
    go_wp2_with (first
        | (go_at_call 75; refine (KS.out 0).mono ?_; rintro e wn ⟨rfl, m1, rfl⟩; rw [World.drewN_drewN])
        | (go_at_call 76; refine (KK.out _).mono ?_; rintro e wn ⟨rfl, m2, rfl⟩; rw [World.drewN_drewN])
        | (go_at_call 77; refine (KU.out _).mono ?_; rintro e wn ⟨rfl, rfl⟩)
        | (go_at_call 78; refine (KL.out _).mono ?_; rintro e wn ⟨rfl, rfl⟩))
    go_ret
    exact ⟨ret_bool HV.out.symm, bl_drewN B.out _⟩
end Go.Proofs.Ytnllndcajdofjaa

namespace Go.Proofs.Ytnllndcajdofjaa
open Go.RowKit
set_option linter.unusedVariables false

variable {P : Program}
theorem run_store1 (w : World) (ad : Addr) (t : TypeId) (v old : Value) (hi : (P.info? t).map (·.size) = some 1) (h1 : v.oneCell' = true) (hc : w.cell? ad = some old) (hf : w.frozen? ad = false) :
    (storeVar t ad v).run P w = .ok () (w.setCell ad v) := by
  have hcs : v.cells = #[v] := by cases v <;> first | rfl | cases h1
  have ha : ad.add 0 = ad := by cases ad; rfl
  cases hq : P.info? t with
  | none => simp [hq] at hi
  | some i =>
    have hs : i.size = 1 := by simpa [hq] using hi
    simp [storeVar, sizeOf, typeInfo, hq, hcs, hs, storeCells, run_store P w ad v _ h1, hc, hf, ha]
/-- A value of one cell goes into a place of a block that is known whole. -/
theorem wpList_store_at {ops : Array Oper} {rest : List Oper} {o : Oper} {a : Go.Act} {w : World} {Q : Exit → Go.Act → World → Prop} (t : TypeId) (hgd : o.guard = none) (x y : Operand) (ho : o.op = .store t x y)
    (hi : (P.info? t).map (·.size) = some 1) (g i : Nat) (hx : a.eval x = .pointer (some ⟨g, i, none⟩)) (v : Value) (hy : a.eval y = v) (h1 : v.oneCell' = true) (T : TypeId) (vs : List Value) (hB : Blk w g T vs) (hl : i < vs.length)
    (h : ∀ w', Blk w' g T (vs.set i v) → w.grownBy w' (some g) → wpList P ops Q rest (a.put o.dst undef) w') : wpList P ops Q (o :: rest) a w :=
  wpList_plain hgd fun _ hK => by
    obtain ⟨hc, hf⟩ := hB.cell i _ (List.getElem?_eq_getElem hl)
    unfold Oper.wp execOp
    simp only [ho, hx, hy, Instr.storeAt, Instr.sureAddr, Sem.run_bind, Sem.run_pure, Result.andThen_ok, run_store1 w _ t v _ hi h1 hc hf]
    obtain ⟨k1, k2⟩ := blk_set hB i v
    exact hK _ _ (h _ k1 k2)
/-- A whole variable is stored, in a region that draws. -/
theorem wp_store_blk {o : Oper} {a : Go.Act} {w : World} {K : Go.Act → World → Prop} {Q : Exit → Go.Act → World → Prop} (t : TypeId) (n : Nat) (x y : Operand) (ho : o.op = .store t x y)
    (hi : (P.info? t).map (·.size) = some n)
    (g : Nat) (hx : a.eval x = .pointer (some ⟨g, 0, none⟩)) (vs : List Value) (hy : a.eval y = .agg vs.toArray) (hl : vs.length = n) (h1 : ∀ v ∈ vs, v.oneCell' = true) (old : List Value) (hg : Blk w g t old) (hs : old.length = n)
    (h : ∀ w', Blk w' g t vs → w.grownBy w' (some g) → K (a.put o.dst undef) w') : o.wp P a w K Q := by
  have hr := run_storeVar_row (P := P) w g t t old.toArray vs.toArray hg (by rw [List.size_toArray, hl]; exact hi) (by simp [hl, hs]) (all_oneCell_toArray h1)
  unfold Oper.wp execOp
  simp only [ho, hx, hy, Instr.storeAt, Instr.sureAddr, Sem.run_bind, Sem.run_pure, Result.andThen_ok, hr]
  exact h _ (setRow_heap w g old.toArray _ _ _ hg) ⟨rfl, rfl, rfl, by simp, fun k hk hne => setRow_other w g k _ (fun e => hne (by rw [e]))⟩
theorem own_block {w : World} {lo g : Nat} {A : Option Addr} {n c : Nat} {xs : List Int} (h : Own w lo (.slice A n c) xs) (hg : g < lo) : (Value.slice A n c).ownBlock = none ∨ (Value.slice A n c).ownBlock ≠ some g := by
  rcases A with _ | a
  · exact .inl rfl
  · right
    intro e
    have k1 := World.ownsRow.lt h a.block rfl
    have : a.block = g := by injection e
    omega
/-- A variable of one value of several cells is loaded whole, by its type. -/
theorem below_grown1 {a w w' : World} {g : Nat} (hb : Below a.heap.size a w) (hg : w.grownBy w' (some g)) (hl : a.heap.size ≤ g) : Below a.heap.size a w' :=
  hb.grown hg hb.size (fun j hj => by injection hj with hj; omega)
theorem hb_grown {w w' : World} {g g' : Nat} {t : TypeId} {vs : List Value} (h : Hid (Blk w g t vs)) (hg : w.grownBy w' (some g')) (hne : g ≠ g') : Hid (Blk w' g t vs) := Lib.hid (h.out.grown hg (fun e => hne (Option.some.inj e)))
theorem ho_grown {w w' : World} {lo g : Nat} {A : Option Addr} {n c : Nat} {xs : List Int} (h : Hid (Own w lo (.slice A n c) xs)) (hg : w.grownBy w' (some g)) (hl : g < lo) : Hid (Own w' lo (.slice A n c) xs) := Lib.hid (h.out.grown hg (own_block h.out hl))
theorem hbl_grown {a w w' : World} {g : Nat} (hb : Hid (Below a.heap.size a w)) (hg : w.grownBy w' (some g)) (hl : a.heap.size ≤ g) : Hid (Below a.heap.size a w') := Lib.hid (below_grown1 hb.out hg hl)
theorem hle_grown {w w' : World} {r : Option Nat} {k : Nat} (h : Hid (k ≤ w.heap.size)) (hg : w.grownBy w' r) : Hid (k ≤ w'.heap.size) := Lib.hid (Nat.le_trans h.out hg.size)
theorem bl_drewT {a b : World} (h : Below a.drew.heap.size a.drew b) : Below a.heap.size a b := bl_trans (bl_drew (bl_refl a)) h
end Go.Proofs.Ytnllndcajdofjaa

namespace Go.Proofs.Ytnllndcajdofjaa
open Go.RowKit
set_option linter.unusedVariables false

theorem wp_store_at {P : Program} {o : Oper} {a : Go.Act} {w : World} {K : Go.Act → World → Prop} {Q : Exit → Go.Act → World → Prop} (t : TypeId) (x y : Operand) (ho : o.op = .store t x y)
    (hi : (P.info? t).map (·.size) = some 1) (g i : Nat) (hx : a.eval x = .pointer (some ⟨g, i, none⟩)) (v : Value) (hy : a.eval y = v) (h1 : v.oneCell' = true) (T : TypeId) (vs : List Value) (hB : Blk w g T vs) (hl : i < vs.length)
    (h : ∀ w', Blk w' g T (vs.set i v) → w.grownBy w' (some g) → K (a.put o.dst undef) w') : o.wp P a w K Q := by
  obtain ⟨hc, hf⟩ := hB.cell i _ (List.getElem?_eq_getElem hl)
  unfold Oper.wp execOp
  simp only [ho, hx, hy, Instr.storeAt, Instr.sureAddr, Sem.run_bind, Sem.run_pure, Result.andThen_ok, run_store1 w _ t v _ hi h1 hc hf]
  obtain ⟨k1, k2⟩ := blk_set hB i v
  exact h _ k1 k2
theorem wp_region_W {P : Program} {ops : Array Oper} {Q : Exit → Go.Act → World → Prop} {last : Nat} {id k : Nat} {a : Go.Act} {w : World} (hm : P.follows .mixedOrders = true) (hk : ops.size = k + 1)
    (h : closedB .any ops (Array.replicate ops.size false) → wpAnyR P .any ops (fun a b => Below a.heap.size a b) (fun W' => Below w.heap.size w W') last Q k (Array.replicate ops.size false) a w.drew) : (Code.region id ops true).wp P Q a w := wp_region_R (fun _ => bl_refl _) hm hk h
set_option maxRecDepth 100000 in
set_option maxHeartbeats 2000000 in
theorem implIsOpen_any (L : At5) (b : Bt) (w : World) (h : Rd5 w L b) :
    Calls Try.prog 16 #[bV L b] w (Fresh (.bool (okB b && openB b)) w) := by
  have BT := btAt_new h
  have B := Lib.hid (bl_box (w := w) (L := L) (b := b))
  have KV := Lib.hid (fun (W : World) (hb : Below w.heap.size w W) => implIsBetting_any L b W (h.below hb))
  have KH := Lib.hid (fun (k : Ok b) (i : Nat) (hi : b.tu = i) (W : World) (hb : Below (w.alloc (.cells (btL L b).toArray 27)).heap.size (w.alloc (.cells (btL L b).toArray 27)) W) => fresh_of_qt (hasToAct_any w.heap.size L b i W (BT.below hb) k.sd (by have := k.t1; omega)))
  obtain ⟨q0, _⟩ := BT.blk.cell 0 _ rfl
  obtain ⟨q1, _⟩ := BT.blk.cell 1 _ rfl
  obtain ⟨q2, _⟩ := BT.blk.cell 2 _ rfl
  obtain ⟨q3, _⟩ := BT.blk.cell 3 _ rfl
  obtain ⟨q4, _⟩ := BT.blk.cell 4 _ rfl
  obtain ⟨q5, _⟩ := BT.blk.cell 5 _ rfl
  obtain ⟨q6, _⟩ := BT.blk.cell 6 _ rfl
  obtain ⟨q7, _⟩ := BT.blk.cell 7 _ rfl
  obtain ⟨q8, _⟩ := BT.blk.cell 8 _ rfl
  have BN := Lib.hid BT
  have BR0 := Lib.hid (bl_refl (w.alloc (.cells (btL L b).toArray 27)))
  have HOP : Hid (openB b = mustB b b.tu.toNat) := Lib.hid rfl
  clear h BT
  rcases hv : okB b with _ | _
  · rw [hv] at KV
    clear KH HOP
    unfold bV at *
    go_enter Try.func16, Try.ntmps16
    go_wp2_with (first
        | (go_at_call 17; refine (KV.out _ B.out).mono ?_; rintro e wn ⟨rfl, hb⟩; have Ba := Lib.hid (bl_trans B.out hb)))
    go_ret
    exact ⟨rfl, Ba.out⟩
  · have k := ok_of hv
    obtain ⟨i, hi⟩ := Int.eq_ofNat_of_zero_le k.t0
    have KK := Lib.hid (KH.out k i hi)
    have HM : Hid (openB b = mustB b i) := Lib.hid (by rw [HOP.out, hi]; rfl)
    rw [hv] at KV
    rw [HM.out]
    clear HOP KH k hv HM
    have HI := Lib.hid hi
    clear hi
    unfold bV at *
    generalize mustB b i = r at *
    go_enter Try.func16, Try.ntmps16
    go_wp2_with (first
        | (go_at_call 17; refine (KV.out _ B.out).mono ?_; rintro e wn ⟨rfl, hb⟩; have HB := Lib.hid hb; have Ba := Lib.hid (bl_trans B.out hb); obtain ⟨q5a, _⟩ := (BN.out.below hb).blk.cell 5 _ rfl; rw [HI.out] at q5a)
        | (go_at_call 67; refine (KK.out _ HB.out).mono ?_; rintro e wm ⟨rfl, hb2⟩; have Bb := Lib.hid (bl_trans Ba.out hb2)))
    go_ret
    exact ⟨ret_bool (by simp), Bb.out⟩
noncomputable def potIR (b : Bt) : Int := if okB b = true then potI b else 0
noncomputable def okC (b : Bt) : Int := if okB b = true then 0 else 1
set_option maxRecDepth 100000 in
set_option maxHeartbeats 2000000 in
theorem implPotIn_any (L : At5) (b : Bt) (w : World) (h : Rd5 w L b) :
    Calls Try.prog 26 #[bV L b] w (Fresh (pairV (potIR b) (okC b)) w) := by
  have BT := btAt_new h
  have B := Lib.hid (bl_box (w := w) (L := L) (b := b))
  have KV := Lib.hid (fun (W : World) (hb : Below w.heap.size w W) => implIsBetting_any L b W (h.below hb))
  have KH := Lib.hid (fun (k : Ok b) (W : World) (hb : Below (w.alloc (.cells (btL L b).toArray 27)).heap.size (w.alloc (.cells (btL L b).toArray 27)) W) => fresh_of_qt (pot_any w.heap.size L b W (BT.below hb) (by have := k.n6; have := k.l2; omega) (by have := k.n6; have := k.l3; omega) k.s2 k.s3))
  obtain ⟨q0, _⟩ := BT.blk.cell 0 _ rfl
  obtain ⟨q1, _⟩ := BT.blk.cell 1 _ rfl
  obtain ⟨q2, _⟩ := BT.blk.cell 2 _ rfl
  obtain ⟨q3, _⟩ := BT.blk.cell 3 _ rfl
  obtain ⟨q4, _⟩ := BT.blk.cell 4 _ rfl
  obtain ⟨q5, _⟩ := BT.blk.cell 5 _ rfl
  obtain ⟨q6, _⟩ := BT.blk.cell 6 _ rfl
  obtain ⟨q7, _⟩ := BT.blk.cell 7 _ rfl
  obtain ⟨q8, _⟩ := BT.blk.cell 8 _ rfl
  clear h BT
  rcases hv : okB b with _ | _
  · have e1 : potIR b = 0 := by unfold potIR; rw [hv]; rfl
    have e2 : okC b = 1 := by unfold okC; rw [hv]; rfl
    rw [hv] at KV
    rw [e1, e2]
    clear KH hv e1 e2
    unfold bV at *
    go_enter Try.func26, Try.ntmps26
    go_wp2_with (first
        | (go_at_call 17; refine (KV.out _ B.out).mono ?_; rintro e wn ⟨rfl, hb⟩; have Ba := Lib.hid (bl_trans B.out hb)))
    go_ret2
    exact ⟨rfl, Ba.out⟩
  · have e1 : potIR b = potI b := by unfold potIR; rw [hv]; rfl
    have e2 : okC b = 0 := by unfold okC; rw [hv]; rfl
    have KK := Lib.hid (KH.out (ok_of hv))
    rw [hv] at KV
    rw [e1, e2]
    clear KH hv e1 e2
    unfold bV at *
    generalize potI b = r at *
    go_enter Try.func26, Try.ntmps26
    go_wp2_with (first
        | (go_at_call 17; refine (KV.out _ B.out).mono ?_; rintro e wn ⟨rfl, hb⟩; have HB := Lib.hid hb; have Ba := Lib.hid (bl_trans B.out hb))
        | (go_at_call 93; refine (KK.out _ HB.out).mono ?_; rintro e wm ⟨rfl, hb2⟩; have Bb := Lib.hid (bl_trans Ba.out hb2)))
    go_ret2
    exact ⟨rfl, Bb.out⟩
noncomputable def allIR (b : Bt) : Int := if okB b = true then allI b else 0
set_option maxRecDepth 100000 in
set_option maxHeartbeats 2000000 in
theorem implChipsIn_any (L : At5) (b : Bt) (w : World) (h : Rd5 w L b) :
    Calls Try.prog 25 #[bV L b] w (Fresh (pairV (allIR b) (okC b)) w) := by
  have BT := btAt_new h
  have B := Lib.hid (bl_box (w := w) (L := L) (b := b))
  have KV := Lib.hid (fun (W : World) (hb : Below w.heap.size w W) => implIsBetting_any L b W (h.below hb))
  have KH := Lib.hid (fun (k : Ok b) (W : World) (hb : Below (w.alloc (.cells (btL L b).toArray 27)).heap.size (w.alloc (.cells (btL L b).toArray 27)) W) => fresh_of_qt (chips_any w.heap.size L b W (BT.below hb) k.n6 (by have := k.n6; have := k.l2; omega) (by have := k.n6; have := k.l3; omega) k.s1 k.s2 k.s3))
  obtain ⟨q0, _⟩ := BT.blk.cell 0 _ rfl
  obtain ⟨q1, _⟩ := BT.blk.cell 1 _ rfl
  obtain ⟨q2, _⟩ := BT.blk.cell 2 _ rfl
  obtain ⟨q3, _⟩ := BT.blk.cell 3 _ rfl
  obtain ⟨q4, _⟩ := BT.blk.cell 4 _ rfl
  obtain ⟨q5, _⟩ := BT.blk.cell 5 _ rfl
  obtain ⟨q6, _⟩ := BT.blk.cell 6 _ rfl
  obtain ⟨q7, _⟩ := BT.blk.cell 7 _ rfl
  obtain ⟨q8, _⟩ := BT.blk.cell 8 _ rfl
  clear h BT
  rcases hv : okB b with _ | _
  · have e1 : allIR b = 0 := by unfold allIR; rw [hv]; rfl
    have e2 : okC b = 1 := by unfold okC; rw [hv]; rfl
    rw [hv] at KV
    rw [e1, e2]
    clear KH hv e1 e2
    unfold bV at *
    go_enter Try.func25, Try.ntmps25
    go_wp2_with (first
        | (go_at_call 17; refine (KV.out _ B.out).mono ?_; rintro e wn ⟨rfl, hb⟩; have Ba := Lib.hid (bl_trans B.out hb)))
    go_ret2
    exact ⟨rfl, Ba.out⟩
  · have e1 : allIR b = allI b := by unfold allIR; rw [hv]; rfl
    have e2 : okC b = 0 := by unfold okC; rw [hv]; rfl
    have KK := Lib.hid (KH.out (ok_of hv))
    rw [hv] at KV
    rw [e1, e2]
    clear KH hv e1 e2
    unfold bV at *
    generalize allI b = r at *
    go_enter Try.func25, Try.ntmps25
    go_wp2_with (first
        | (go_at_call 17; refine (KV.out _ B.out).mono ?_; rintro e wn ⟨rfl, hb⟩; have HB := Lib.hid hb; have Ba := Lib.hid (bl_trans B.out hb))
        | (go_at_call 92; refine (KK.out _ HB.out).mono ?_; rintro e wm ⟨rfl, hb2⟩; have Bb := Lib.hid (bl_trans Ba.out hb2)))
    go_ret2
    exact ⟨rfl, Bb.out⟩
set_option maxRecDepth 100000 in
set_option maxHeartbeats 4000000 in
theorem choices_any (g : Nat) (L : At5) (b : Bt) (w : World) (h : BtAt w g L b) (k : Ok b) :
    Calls Try.prog 68 #[.pointer (some ⟨g, 0, none⟩)] w (Fresh (chV (checkB b) (callI b) (leastI b) (mostI b)) w) := by
  have KM := Lib.hid (fun (W : World) (hb : Below w.heap.size w W) => fresh_of_qt (missing_any g L b W (h.below hb) k))
  have KC := Lib.hid (fun (W : World) (hb : Below w.heap.size w W) => fresh_of_qt (callSize_any g L b W (h.below hb) k))
  have KR := Lib.hid (fun (W : World) (hb : Below w.heap.size w W) => fresh_of_qt (canRaise_any g L b W (h.below hb) k))
  have KX := Lib.hid (fun (W : World) (hb : Below w.heap.size w W) => fresh_of_qt (mostRaise_any g L b W (h.below hb) k))
  have KT := Lib.hid (fun (W : World) (hb : Below w.heap.size w W) => fresh_of_qt (qt_of_same (betToMatchS_any g L b W (h.below hb) k.sd)))
  have HT := Lib.hid (fun (W : World) (hb : Below w.heap.size w W) => (h.below hb).blk)
  have hmx : Try.prog.follows .mixedOrders = true := by kernel_rfl
  have iC : (Try.prog.info? 30).map (·.size) = some 4 := by kernel_rfl
  have uC := Try.underlying30
  have i1 : (Try.prog.info? 2).map (·.size) = some 1 := by kernel_rfl
  have u1 := top_bd k.sd
  have u2 := k.u0
  have u3 := k.u1
  have HQ : Hid (∀ W : World, Below w.heap.size w W → W.cell? ⟨g, 6, none⟩ = some (.int .i64 b.un)) := Lib.hid (fun W hb => ((h.below hb).blk.cell 6 _ rfl).1)
  have HK : Hid (checkB b = (missI b == 0)) := Lib.hid rfl
  have N0 := Lib.hid (blk_new w 30 [.bool false, .int .i64 0, .int .i64 0, .int .i64 0])
  have B := Lib.hid (bl_alloc (bl_refl w) (.cells ([.bool false, .int .i64 0, .int .i64 0, .int .i64 0] : List Value).toArray 30))
  have HML : Hid (mostI b = if mayB b = true then mostR b else 0) := Lib.hid rfl
  have HLL : Hid (leastI b = if mayB b = true then minT (mostR b) (topI b + b.un) else 0) := Lib.hid rfl
  have KN := Lib.hid (fun W : World => minT_any (mostR b) (topI b + b.un) W)
  clear h k
  rw [HK.out]
  clear HK
  generalize missI b = m at *
  generalize callI b = c at *
  generalize mostI b = mo at *
  generalize leastI b = le at *
  generalize mostR b = mr at *
  generalize mayB b = my at *
  rcases my with _ | _
  · obtain rfl : mo = 0 := HML.out
    obtain rfl : le = 0 := HLL.out
    clear HML HLL KN
    go_enter Try.func68, Try.ntmps68
    go_wp2_with (first
        | (go_at_call 132; refine (KM.out _ B.out).mono ?_; rintro e w1 ⟨rfl, hb⟩; have N0a := Lib.hid (N0.out.below hb); have Ba := Lib.hid (bl_trans B.out hb); clear N0 B hb)
        | (go_at_call 133; refine (KC.out _ Ba.out).mono ?_; rintro e w2 ⟨rfl, hb⟩; have ZL := Lib.hid (N0a.out.below hb).lt; have N0b := Lib.hid ((N0a.out.below hb).below (bl_alloc (bl_refl w2) (.cells ([.bool (m == 0), .int .i64 c, .int .i64 0, .int .i64 0] : List Value).toArray 30))); have Bb := Lib.hid (bl_alloc (bl_trans Ba.out hb) (.cells ([.bool (m == 0), .int .i64 c, .int .i64 0, .int .i64 0] : List Value).toArray 30)); have N1 := Lib.hid (blk_new w2 30 [.bool (m == 0), .int .i64 c, .int .i64 0, .int .i64 0]); clear N0a Ba hb)
        | (go_at_call 134; refine (KR.out _ Bb.out).mono ?_; rintro e w3 ⟨rfl, hb⟩; have N0c := Lib.hid (N0b.out.below hb); have N1c := Lib.hid (N1.out.below hb); have Bc := Lib.hid (bl_trans Bb.out hb); clear N0b N1 Bb hb)
        | (with_reducible refine wpList_load_blk 30 _ 4 rfl (.tmp 3) rfl uC rfl iC w2.heap.size 0 rfl [.bool (m == 0), .int .i64 c, .int .i64 0, .int .i64 0] rfl N1c.out.range ?_)
        | (refine wpList_store_blk 30 4 rfl (.tmp 2) (.tmp 26) rfl iC w.heap.size rfl [.bool (m == 0), .int .i64 c, .int .i64 0, .int .i64 0] rfl rfl (by simp [Value.oneCell']) _ N0c.out rfl ?_; intro w9 k9 g9; have B9 := Lib.hid (below_grown1 Bc.out g9 (Nat.le_refl _))))
    obtain ⟨z0, _⟩ := k9.cell 0 _ rfl
    obtain ⟨z1, _⟩ := k9.cell 1 _ rfl
    obtain ⟨z2, _⟩ := k9.cell 2 _ rfl
    obtain ⟨z3, _⟩ := k9.cell 3 _ rfl
    exact bodyPost_ret (v := .agg #[.bool (m == 0), .int .i64 c, .int .i64 0, .int .i64 0]) (by simp [results, Try.results68, go_sem, z0, z1, z2, z3]) rfl ⟨rfl, B9.out⟩
  · obtain rfl : mo = mr := HML.out
    obtain rfl : le = minT mo (topI b + b.un) := HLL.out
    clear HML HLL
    generalize topI b = t at *
    generalize b.un = u at *
    go_enter Try.func68, Try.ntmps68
    go_wp2_with (first
        | (go_at_call 132; refine (KM.out _ B.out).mono ?_; rintro e w1 ⟨rfl, hb⟩; have N0a := Lib.hid (N0.out.below hb); have Ba := Lib.hid (bl_trans B.out hb); clear N0 B hb)
        | (go_at_call 133; refine (KC.out _ Ba.out).mono ?_; rintro e w2 ⟨rfl, hb⟩; have ZL := Lib.hid (N0a.out.below hb).lt; have N0b := Lib.hid ((N0a.out.below hb).below (bl_alloc (bl_refl w2) (.cells ([.bool (m == 0), .int .i64 c, .int .i64 0, .int .i64 0] : List Value).toArray 30))); have Bb := Lib.hid (bl_alloc (bl_trans Ba.out hb) (.cells ([.bool (m == 0), .int .i64 c, .int .i64 0, .int .i64 0] : List Value).toArray 30)); have N1 := Lib.hid (blk_new w2 30 [.bool (m == 0), .int .i64 c, .int .i64 0, .int .i64 0]); clear N0a Ba hb)
        | (go_at_call 134; refine (KR.out _ Bb.out).mono ?_; rintro e w3 ⟨rfl, hb⟩; have N0c := Lib.hid (N0b.out.below hb); have N1c := Lib.hid (N1.out.below hb); have Bc := Lib.hid (bl_trans Bb.out hb); clear N0b N1 Bb hb)
        | (go_at_call 135; refine (KX.out _ Bc.out).mono ?_; rintro e w4 ⟨rfl, hb⟩; have N0d := Lib.hid (N0c.out.below hb); have N1d := Lib.hid (N1c.out.below hb); have Bd := Lib.hid (bl_trans Bc.out hb); clear N0c N1c Bc hb)
        | ((with_reducible refine wpList_store_at 2 rfl (.tmp 14) (.tmp 13) rfl i1 w2.heap.size 3 rfl (.int .i64 mo) rfl rfl _ _ N1d.out ?_ ?_); (exact (by simp)); intro w5 k5 g5; have N0e := Lib.hid (N0d.out.grown g5 (fun e => by have := ZL.out; have e2 := Option.some.inj e; omega)); have N1e : Hid (Blk w5 w2.heap.size 30 [.bool (m == 0), .int .i64 c, .int .i64 0, .int .i64 mo]) := Lib.hid k5; have Be := Lib.hid (below_grown1 Bd.out g5 (Nat.le_of_lt ZL.out)); clear k5 g5 N0d N1d Bd))
    have HU : Hid (∀ W', Below w5.heap.size w5 W' → W'.cell? ⟨g, 6, none⟩ = some (.int .i64 u)) := Lib.hid (fun W' hI => (HQ.out W' (bl_trans Be.out hI)))
    refine wp_region_W (last := 11) (k := 11) hmx rfl (fun HC0 => ?_)
    refine wpAnyR_takeL (i := 0) (kw := 3) (v := .pointer (some ⟨w2.heap.size, 3, none⟩)) (fun _ => bl_refl _) (fun p q => bl_trans p q) rfl rfl (by kernel_rfl) (by kernel_rfl) (by kernel_rfl) (by kernel_rfl) (fun _ _ _ h => h) HC0 (Or.inl ⟨by kernel_rfl, fun W' hI => ?_⟩) (fun HC1 => ?_)
    · exact .inl (by go_simp)
    refine wpAnyR_takeL (i := 1) (kw := 2) (v := .int .i64 mo) (fun _ => bl_refl _) (fun p q => bl_trans p q) rfl rfl (by kernel_rfl) (by kernel_rfl) (by kernel_rfl) (by kernel_rfl) (fun _ _ _ h => h) HC1 (Or.inl ⟨by kernel_rfl, fun W' hI => ?_⟩) (fun HC2 => ?_)
    · have hv := (N1e.out).below hI
      obtain ⟨z3, _⟩ := hv.cell 3 _ rfl
      exact .inl (by go_simp)
    refine wpAnyR_takeL (i := 2) (kw := 4) (v := .pointer (some ⟨g, 0, none⟩)) (fun _ => bl_refl _) (fun p q => bl_trans p q) rfl rfl (by kernel_rfl) (by kernel_rfl) (by kernel_rfl) (by kernel_rfl) (fun _ _ _ h => h) HC2 (Or.inl ⟨by kernel_rfl, fun W' hI => ?_⟩) (fun HC3 => ?_)
    · exact .inl (by go_simp)
    refine wpAnyR_takeL (i := 3) (kw := 3) (v := .int .i64 t) (fun _ => bl_refl _) (fun p q => bl_trans p q) rfl rfl (by kernel_rfl) (by kernel_rfl) (by kernel_rfl) (by kernel_rfl) (fun _ _ _ h => h) HC3 (Or.inl ⟨by kernel_rfl, fun W' hI => ?_⟩) (fun HC4 => ?_)
    · exact .inr ⟨130, #[.pointer (some ⟨g, 0, none⟩)], by go_simp, KT.out W' (bl_trans Be.out hI)⟩
    refine wpAnyR_takeL (i := 4) (kw := 6) (v := .pointer (some ⟨g, 0, none⟩)) (fun _ => bl_refl _) (fun p q => bl_trans p q) rfl rfl (by kernel_rfl) (by kernel_rfl) (by kernel_rfl) (by kernel_rfl) (fun _ _ _ h => h) HC4 (Or.inl ⟨by kernel_rfl, fun W' hI => ?_⟩) (fun HC5 => ?_)
    · exact .inl (by go_simp)
    refine wpAnyR_takeL (i := 5) (kw := 5) (v := .pointer (some ⟨g, 0, none⟩)) (fun _ => bl_refl _) (fun p q => bl_trans p q) rfl rfl (by kernel_rfl) (by kernel_rfl) (by kernel_rfl) (by kernel_rfl) (fun _ _ _ h => h) HC5 (Or.inl ⟨by kernel_rfl, fun W' hI => ?_⟩) (fun HC6 => ?_)
    · exact .inl (by go_simp)
    refine wpAnyR_takeL (i := 6) (kw := 4) (v := .pointer (some ⟨g, 6, none⟩)) (fun _ => bl_refl _) (fun p q => bl_trans p q) rfl rfl (by kernel_rfl) (by kernel_rfl) (by kernel_rfl) (by kernel_rfl) (fun _ _ _ h => h) HC6 (Or.inl ⟨by kernel_rfl, fun W' hI => ?_⟩) (fun HC7 => ?_)
    · exact .inl (by go_simp)
    refine wpAnyR_takeL (i := 7) (kw := 3) (v := .int .i64 u) (fun _ => bl_refl _) (fun p q => bl_trans p q) rfl rfl (by kernel_rfl) (by kernel_rfl) (by kernel_rfl) (by kernel_rfl) (fun _ _ _ h => h) HC7 (Or.inl ⟨by kernel_rfl, fun W' hI => ?_⟩) (fun HC8 => ?_)
    · have hx := HU.out W' hI
      exact .inl (by go_simp)
    refine wpAnyR_takeL (i := 8) (kw := 2) (v := .int .i64 (t + u)) (fun _ => bl_refl _) (fun p q => bl_trans p q) rfl rfl (by kernel_rfl) (by kernel_rfl) (by kernel_rfl) (by kernel_rfl) (fun _ _ _ h => h) HC8 (Or.inl ⟨by kernel_rfl, fun W' hI => ?_⟩) (fun HC9 => ?_)
    · exact .inl (by go_simp; first | done | exact IntWalk.i64_in _ (by omega))
    refine wpAnyR_takeL (i := 9) (kw := 1) (v := .int .i64 (minT mo (t + u))) (fun _ => bl_refl _) (fun p q => bl_trans p q) rfl rfl (by kernel_rfl) (by kernel_rfl) (by kernel_rfl) (by kernel_rfl) (fun _ _ _ h => h) HC9 (Or.inl ⟨by kernel_rfl, fun W' hI => ?_⟩) (fun HC10 => ?_)
    · exact .inr ⟨136, #[.int .i64 mo, .int .i64 (t + u)], by go_simp, (KN.out W').mono fun e w' h => ⟨h.1, by rw [← h.2]; exact bl_refl _⟩⟩
    refine wpAnyR_takeL (i := 10) (kw := 1) (v := .pointer (some ⟨w2.heap.size, 2, none⟩)) (fun _ => bl_refl _) (fun p q => bl_trans p q) rfl rfl (by kernel_rfl) (by kernel_rfl) (by kernel_rfl) (by kernel_rfl) (fun _ _ _ h => h) HC10 (Or.inl ⟨by kernel_rfl, fun W' hI => ?_⟩) (fun HC11 => ?_)
    · exact .inl (by go_simp)
    refine wpAnyR_lastL (by kernel_rfl) (by kernel_rfl) rfl (by kernel_rfl) (fun wR hrR => ⟨bl_drewT hrR, ?_⟩)
    intro K hK
    have BR := Lib.hid (bl_drewT hrR)
    clear hrR
    have N1f := N1e.out.below BR.out
    have N0f := N0e.out.below BR.out
    try simp only [Act.put, List.setIfInBounds_toArray, List.set_cons_succ, List.set_cons_zero]
    refine wp_store_at 2 (.tmp 25) (.tmp 24) rfl i1 w2.heap.size 2 rfl (.int .i64 (minT mo (t + u))) rfl rfl _ _ N1f (by simp) (fun w6 k5 g5 => ?_)
    refine hK _ _ ?_
    clear hK K
    have N0g := Lib.hid (N0f.grown g5 (fun e => by have := ZL.out; have e2 := Option.some.inj e; omega))
    have N1g : Hid (Blk w6 w2.heap.size 30 [.bool (m == 0), .int .i64 c, .int .i64 (minT mo (t + u)), .int .i64 mo]) := Lib.hid k5
    have Bg := Lib.hid (below_grown1 (bl_trans Be.out BR.out) g5 (Nat.le_of_lt ZL.out))
    clear k5 g5 N0f N1f N0e N1e Be BR
    go_wp2_with (first
        | (with_reducible refine wpList_load_blk 30 _ 4 rfl (.tmp 3) rfl uC rfl iC w2.heap.size 0 rfl [.bool (m == 0), .int .i64 c, .int .i64 (minT mo (t + u)), .int .i64 mo] rfl N1g.out.range ?_)
        | (refine wpList_store_blk 30 4 rfl (.tmp 2) (.tmp 26) rfl iC w.heap.size rfl [.bool (m == 0), .int .i64 c, .int .i64 (minT mo (t + u)), .int .i64 mo] rfl rfl (by simp [Value.oneCell']) _ N0g.out rfl ?_; intro w9 k9 g9; have B9 := Lib.hid (below_grown1 Bg.out g9 (Nat.le_refl _))))
    obtain ⟨z0, _⟩ := k9.cell 0 _ rfl
    obtain ⟨z1, _⟩ := k9.cell 1 _ rfl
    obtain ⟨z2, _⟩ := k9.cell 2 _ rfl
    obtain ⟨z3, _⟩ := k9.cell 3 _ rfl
    exact bodyPost_ret (v := .agg #[.bool (m == 0), .int .i64 c, .int .i64 (minT mo (t + u)), .int .i64 mo]) (by simp [results, Try.results68, go_sem, z0, z1, z2, z3]) rfl ⟨rfl, B9.out⟩
end Go.Proofs.Ytnllndcajdofjaa
