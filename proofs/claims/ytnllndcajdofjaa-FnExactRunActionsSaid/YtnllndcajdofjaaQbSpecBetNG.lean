/-
  Put together, what this law needs of: SpecBetN, BetOs, Glue.
-/
import Derived.Test.YtnllndcajdofjaaQbSpecBetF
import Derived.Test.YtnllndcajdofjaaQbBetCloneG
import Derived.Test.YtnllndcajdofjaaQbBetEG
import Derived.Test.YtnllndcajdofjaaQbBetToG
namespace Go.Proofs.Ytnllndcajdofjaa
open Go.RowKit
set_option linter.unusedVariables false

/-- The first seat left of s that has to act, or the seat whose turn it is. -/
def hopG (b : Bt) (s : Int) : Nat := (List.range b.st.length).findIdx (fun k => mustB b (seatAt b.st.length (leftI s b.st.length) k).toNat)
def nxtG (b : Bt) (s : Int) : Int := if hopG b s < b.st.length then seatAt b.st.length (leftI s b.st.length) (hopG b s) else b.tu
theorem hopG_before (b : Bt) (s : Int) (k : Nat) (h : k < hopG b s) (hk : k < b.st.length) : mustB b (seatAt b.st.length (leftI s b.st.length) k).toNat = false := by
  have := List.not_of_lt_findIdx h
  simpa using this
theorem hopG_at (b : Bt) (s : Int) (h : hopG b s < b.st.length) : mustB b (seatAt b.st.length (leftI s b.st.length) (hopG b s)).toNat = true := by
  have := List.findIdx_getElem (p := fun k => mustB b (seatAt b.st.length (leftI s b.st.length) k).toNat) (xs := List.range b.st.length) (w := by rw [List.length_range]; exact h)
  simpa [hopG] using this
theorem hopG_le (b : Bt) (s : Int) : hopG b s ≤ b.st.length := by
  have : hopG b s ≤ (List.range b.st.length).length := List.findIdx_le_length
  simpa using this
def NoneG (b : Bt) (s : Int) (k : Nat) : Prop := ∀ j, j < k → mustB b (seatAt b.st.length (leftI s b.st.length) j).toNat = false
theorem nxtG_found (b : Bt) (s : Int) (k : Nat) (hk : k < b.st.length) (h : NoneG b s k) (hh : mustB b (seatAt b.st.length (leftI s b.st.length) k).toNat = true) : nxtG b s = seatAt b.st.length (leftI s b.st.length) k := by
  have hl := hopG_le b s
  have e : hopG b s = k := by
    rcases Nat.lt_trichotomy (hopG b s) k with q | q | q
    · have := h _ q
      rw [hopG_at b s (by omega)] at this
      cases this
    · exact q
    · have := hopG_before b s k q hk
      rw [hh] at this
      cases this
  unfold nxtG
  rw [e, if_pos hk]
theorem nxtG_none (b : Bt) (s : Int) (h : NoneG b s b.st.length) : nxtG b s = b.tu := by
  unfold nxtG
  split
  · next q =>
    have := h _ q
    rw [hopG_at b s q] at this
    cases this
  · rfl
/-- The q-th seat left of s. -/
theorem left_q (n : Nat) (s : Int) (q : Nat) (hq : 1 ≤ q) (hn : 0 < n) (hs : 0 ≤ s) : ∃ j : Nat, j < n ∧ (s + (q : Int)) % (n : Int) = (j : Int) ∧ (s + (q : Int)).tmod (n : Int) = (j : Int) ∧ seatAt n (leftI s n) (q - 1) = (j : Int) := by
  have h1 := Int.emod_nonneg (s + (q : Int)) (show (n : Int) ≠ 0 by omega)
  have h2 := Int.emod_lt_of_pos (s + (q : Int)) (show (0 : Int) < n by omega)
  obtain ⟨j, hj⟩ := Int.eq_ofNat_of_zero_le h1
  refine ⟨j, by omega, hj, by rw [Int.tmod_eq_emod_of_nonneg (by omega)]; exact hj, ?_⟩
  unfold seatAt leftI
  rw [Int.emod_add_emod, show s + 1 + ((q - 1 : Nat) : Int) = s + (q : Int) by omega]
  exact hj
set_option maxRecDepth 100000 in
set_option maxHeartbeats 2000000 in
theorem l10Next_any (L : At5) (b : Bt) (s : Int) (w : World) (h : Rd5 w L b) (k : Sd b) (hs0 : 0 ≤ s) (hs1 : s ≤ 100) :
    Calls Try.prog 152 #[bV L b, .int .i64 s] w (Fresh (.int .i64 (nxtG b s)) w) := by
  have hmx : Try.prog.follows .mixedOrders = true := by kernel_rfl
  have n2 := k.n2
  have n6 := k.n6
  have BT := Lib.hid (btAt_new h)
  have B := Lib.hid (bl_box (w := w) (L := L) (b := b))
  have KH := Lib.hid (fun (j : Nat) (hj : j < b.st.length) (W : World) (hW : Rd5 W L b) => l10Has_any L b j W hW k hj)
  have HQ := Lib.hid (fun (q : Nat) (hq : 1 ≤ q) => left_q b.st.length s q hq (by omega) hs0)
  have HF := Lib.hid (nxtG_found b s)
  have HN := Lib.hid (nxtG_none b s)
  have BT1 := BT.out
  obtain ⟨q0, -⟩ := BT1.blk.cell 0 _ rfl
  obtain ⟨q1, -⟩ := BT1.blk.cell 1 _ rfl
  obtain ⟨q2, -⟩ := BT1.blk.cell 2 _ rfl
  obtain ⟨q3, -⟩ := BT1.blk.cell 3 _ rfl
  obtain ⟨q4, -⟩ := BT1.blk.cell 4 _ rfl
  obtain ⟨q5, -⟩ := BT1.blk.cell 5 _ rfl
  obtain ⟨q6, -⟩ := BT1.blk.cell 6 _ rfl
  obtain ⟨q7, -⟩ := BT1.blk.cell 7 _ rfl
  obtain ⟨q8, -⟩ := BT1.blk.cell 8 _ rfl
  clear h k BT1
  generalize nxtG b s = res at *
  obtain ⟨w0, rfl⟩ : ∃ w0 : World, w0 = w := ⟨w, rfl⟩
  unfold bV at *
  go_enter Try.func152, Try.ntmps152
  go_wp2_with fail
  go_loopw [6] (fun i wr => ∃ q : Nat, 1 ≤ q ∧ q ≤ b.st.length + 1 ∧ i = .int .i64 q ∧ Hid (NoneG b s (q - 1)) ∧ Hid (BtAt wr w0.heap.size L b) ∧ Hid (Below w0.heap.size w0 wr)) (fun i _ => b.st.length + 1 - (intOf i).toNat)
  case atStart => exact ⟨1, Nat.le_refl _, by omega, rfl, Lib.hid (fun j hj => by omega), BT, B⟩
  case round =>
    obtain ⟨q, hq1, hq2, rfl, HZ, HB, HL⟩ := hrel
    clear BT B
    have HB1 := HB.out
    obtain ⟨y0, -⟩ := HB1.blk.cell 0 _ rfl
    obtain ⟨y1, -⟩ := HB1.blk.cell 1 _ rfl
    obtain ⟨y2, -⟩ := HB1.blk.cell 2 _ rfl
    obtain ⟨y3, -⟩ := HB1.blk.cell 3 _ rfl
    obtain ⟨y4, -⟩ := HB1.blk.cell 4 _ rfl
    obtain ⟨y5, -⟩ := HB1.blk.cell 5 _ rfl
    obtain ⟨y6, -⟩ := HB1.blk.cell 6 _ rfl
    obtain ⟨y7, -⟩ := HB1.blk.cell 7 _ rfl
    obtain ⟨y8, -⟩ := HB1.blk.cell 8 _ rfl
    clear HB1
    by_cases hlt : q ≤ b.st.length
    · have hlt' : (q : Int) ≤ b.st.length := by omega
      have dlt : decide ((q : Int) ≤ b.st.length) = true := decide_eq_true hlt'
      obtain ⟨j, hj, e1, e2, e3⟩ := HQ.out q hq1
      have E3 := Lib.hid e3
      have hz : (b.st.length : Int) ≠ 0 := by omega
      have KK := Lib.hid (KH.out j hj)
      clear e3
      go_wp2_with fail
      refine wp_region_W (last := 6) (k := 6) hmx rfl (fun HC0 => ?_)
      refine wpAnyR_takeL (i := 0) (kw := 1) (v := .agg #[.slice L.a1 b.st.length L.c1, .slice L.a2 b.bt.length L.c2, .slice L.a3 b.pd.length L.c3, .slice L.a4 b.fo.length L.c4, .slice L.a5 b.ac.length L.c5, .int .i64 b.tu, .int .i64 b.un, .int .i64 b.ra, .int .i64 b.li]) (fun _ => bl_refl _) (fun p q => bl_trans p q) rfl rfl (by kernel_rfl) (by kernel_rfl) (by kernel_rfl) (by kernel_rfl) (fun _ _ _ h => h) HC0 (Or.inl ⟨by kernel_rfl, fun W' hI => ?_⟩) (fun HC1 => ?_)
      · have hv := (HB.out.blk).below hI
        obtain ⟨z0, _⟩ := hv.cell 0 _ rfl
        obtain ⟨z1, _⟩ := hv.cell 1 _ rfl
        obtain ⟨z2, _⟩ := hv.cell 2 _ rfl
        obtain ⟨z3, _⟩ := hv.cell 3 _ rfl
        obtain ⟨z4, _⟩ := hv.cell 4 _ rfl
        obtain ⟨z5, _⟩ := hv.cell 5 _ rfl
        obtain ⟨z6, _⟩ := hv.cell 6 _ rfl
        obtain ⟨z7, _⟩ := hv.cell 7 _ rfl
        obtain ⟨z8, _⟩ := hv.cell 8 _ rfl
        exact .inl (by go_simp)
      refine wpAnyR_takeL (i := 1) (kw := 3) (v := .int .i64 s) (fun _ => bl_refl _) (fun p q => bl_trans p q) rfl rfl (by kernel_rfl) (by kernel_rfl) (by kernel_rfl) (by kernel_rfl) (fun _ _ _ h => h) HC1 (Or.inl ⟨by kernel_rfl, fun W' hI => ?_⟩) (fun HC2 => ?_)
      · exact .inl (by go_simp)
      refine wpAnyR_takeL (i := 2) (kw := 3) (v := .int .i64 q) (fun _ => bl_refl _) (fun p q => bl_trans p q) rfl rfl (by kernel_rfl) (by kernel_rfl) (by kernel_rfl) (by kernel_rfl) (fun _ _ _ h => h) HC2 (Or.inl ⟨by kernel_rfl, fun W' hI => ?_⟩) (fun HC3 => ?_)
      · exact .inl (by go_simp)
      refine wpAnyR_takeL (i := 3) (kw := 2) (v := .int .i64 (s + q)) (fun _ => bl_refl _) (fun p q => bl_trans p q) rfl rfl (by kernel_rfl) (by kernel_rfl) (by kernel_rfl) (by kernel_rfl) (fun _ _ _ h => h) HC3 (Or.inl ⟨by kernel_rfl, fun W' hI => ?_⟩) (fun HC4 => ?_)
      · exact .inl (by go_simp; first | done | exact IntWalk.i64_in _ (by omega))
      refine wpAnyR_takeL (i := 4) (kw := 2) (v := .int .i64 b.st.length) (fun _ => bl_refl _) (fun p q => bl_trans p q) rfl rfl (by kernel_rfl) (by kernel_rfl) (by kernel_rfl) (by kernel_rfl) (fun _ _ _ h => h) HC4 (Or.inl ⟨by kernel_rfl, fun W' hI => ?_⟩) (fun HC5 => ?_)
      · exact .inl (by go_simp)
      refine wpAnyR_takeL (i := 5) (kw := 1) (v := .int .i64 j) (fun _ => bl_refl _) (fun p q => bl_trans p q) rfl rfl (by kernel_rfl) (by kernel_rfl) (by kernel_rfl) (by kernel_rfl) (fun _ _ _ h => h) HC5 (Or.inl ⟨by kernel_rfl, fun W' hI => ?_⟩) (fun HC6 => ?_)
      · exact .inl (by go_simp; first | done | (intro e; rw [e] at n2; simp at n2))
      refine wpAnyR_lastL (by kernel_rfl) (by kernel_rfl) rfl (by kernel_rfl) (fun wR hrR => ⟨bl_drewT hrR, ?_⟩)
      intro K hK
      have BR := Lib.hid (bl_drewT hrR)
      clear hrR
      rcases hm : mustB b j with _ | _
      · rw [hm] at KK
        have HN2 : Hid (NoneG b s (q + 1 - 1)) := Lib.hid (fun j' hj' => by
          by_cases e : j' = q - 1
          · subst e; rw [E3.out]; exact hm
          · exact HZ.out j' (by omega))
        clear hm
        go_simp
        go_wp2_with (go_at_call 107; refine (KK.out _ (HB.out.below BR.out).rd).mono ?_; rintro e w5 ⟨rfl, hb5⟩; have HB5 := Lib.hid ((HB.out.below BR.out).below hb5); have HL5 := Lib.hid (bl_trans (bl_trans HL.out BR.out) hb5); clear hb5)
        exact ⟨⟨q + 1, by omega, by omega, by go_num, HN2, HB5, HL5⟩, by simp [intOf]; omega⟩
      · rw [hm] at KK
        have HR : Hid (res = (j : Int)) := Lib.hid (by
          rw [HF.out (q - 1) (by omega) HZ.out (by rw [E3.out]; exact hm)]; exact E3.out)
        clear hm
        go_simp
        go_wp2_with (go_at_call 107; refine (KK.out _ (HB.out.below BR.out).rd).mono ?_; rintro e w5 ⟨rfl, hb5⟩; have HL5 := Lib.hid (bl_trans (bl_trans HL.out BR.out) hb5); clear hb5)
        go_ret
        exact ⟨by rw [HR.out]; rfl, HL5.out⟩
    · obtain rfl : q = b.st.length + 1 := by omega
      have dlt : decide (((b.st.length + 1 : Nat) : Int) ≤ b.st.length) = false := decide_eq_false (by omega)
      have HR := Lib.hid (HN.out HZ.out)
      have d2 : decide ((b.st.length : Int) + 1 ≤ (b.st.length : Int)) = false := decide_eq_false (by omega)
      go_wp2_with fail
      go_ret
      exact ⟨by rw [HR.out]; rfl, HL.out⟩
end Go.Proofs.Ytnllndcajdofjaa

namespace Go.Proofs.Ytnllndcajdofjaa
open Go.RowKit
set_option linter.unusedVariables false

theorem own_addr {W : World} {lo n c : Nat} {A : Option Addr} {xs : List Int} (h : Own W lo (.slice A n c) xs) : A = none ∨ ∃ (g : Nat) (cur : Array Value), A = some ⟨g, 0, none⟩ ∧ W.heap[g]? = some (.cells cur 2) ∧ lo ≤ g := by
  rcases h.2 with ⟨e, _⟩ | ⟨g, cap, cur, e, hb, hg, _⟩
  · injection e with e; exact .inl e
  · injection e with e; exact .inr ⟨g, cur, e, hg, hb⟩
theorem ownB_addr {W : World} {lo n c : Nat} {A : Option Addr} {xs : List Bool} (h : OwnB W lo (.slice A n c) xs) : A = none ∨ ∃ (g : Nat) (cur : Array Value), A = some ⟨g, 0, none⟩ ∧ W.heap[g]? = some (.cells cur 4) ∧ lo ≤ g := by
  rcases h.2 with ⟨e, _⟩ | ⟨g, cap, cur, e, hb, hg, _⟩
  · injection e with e; exact .inl e
  · injection e with e; exact .inr ⟨g, cur, e, hg, hb⟩
theorem ob_slice (A : Option Addr) (n c j : Nat) (h : (Value.slice A n c).ownBlock = some j) : ∃ a, A = some a ∧ a.block = j := by
  rcases A with _ | a
  · cases h
  · exact ⟨a, rfl, by injection h⟩
/-- A row of numbers and one of bools lie in different blocks. -/
theorem apt_types {W : World} {lo lo' n c m d : Nat} {A B : Option Addr} {xs : List Int} {ys : List Bool} (h : Own W lo (.slice A n c) xs) (k : OwnB W lo' (.slice B m d) ys) : Apt A B := fun a b ea eb q => by
  rcases own_addr h with e | ⟨g, cur, e, hg, _⟩
  · rw [e] at ea; cases ea
  · rcases ownB_addr k with e' | ⟨g', cur', e', hg', _⟩
    · rw [e'] at eb; cases eb
    · rw [e] at ea; rw [e'] at eb
      obtain rfl := Option.some.inj ea
      obtain rfl := Option.some.inj eb
      obtain rfl : g = g' := q
      rw [hg] at hg'
      injection hg' with r
      injection r with _ r2
      exact absurd r2 (by decide)
theorem ne_types {W : World} {lo lo' n c g : Nat} {A : Option Addr} {xs : List Int} {ys : List Bool} {m d : Nat} (h : Own W lo (.slice A n c) xs) (k : OwnB W lo' (.slice (some ⟨g, 0, none⟩) m d) ys) : (Value.slice A n c).ownBlock = none ∨ (Value.slice A n c).ownBlock ≠ some g := by
  refine .inr (fun e => ?_)
  obtain ⟨a, ea, eb⟩ := ob_slice A n c g e
  exact apt_types h k a _ ea rfl eb
theorem wp_glueB {o : Oper} {a : Go.Act} {w : World} {K : Go.Act → World → Prop} {Q : Exit → Go.Act → World → Prop} (s x : Operand)
    (ho : o.op = .call { callee := .builtin .append, args := #[s, x], argTypes := #[25, 25] })
    (lo : Nat) (v : Value) (xs ys : List Bool) (A : Option Addr) (c : Nat) (hs : a.eval s = v) (hown : OwnB w lo v xs) (hx : a.eval x = .slice A ys.length c) (hsrc : RdB w A ys) (hb : xs.length + ys.length ≤ 4000000) (hlo : lo ≤ w.heap.size)
    (h : ∀ A' c' ws w', ws = xs ++ ys → OwnB w' lo (.slice A' ws.length c') ws → w.grownBy w' v.ownBlock → ((Value.slice A' ws.length c').ownBlock = v.ownBlock ∨ (Value.slice A' ws.length c').ownBlock = some w.heap.size) → K (a.put o.dst (.slice A' ws.length c')) w') : o.wp Try.prog a w K Q := by
  obtain ⟨v', w', hr, h4, h3, h6⟩ := run_glueB w o.type lo v xs ys A c hown hsrc hb hlo
  obtain ⟨A', c', rfl, h5⟩ := own_formB h4
  unfold Oper.wp execOp
  simp only [ho, resolve, invoke, builtin, Sem.run_bind, Sem.run_pure, Result.andThen_ok, List.map_toArray, List.map_cons, List.map_nil, hs, hx, hr]
  exact h A' c' _ w' rfl h5 h3 h6
/-- Three operations may come up. -/
theorem wpAnyR_threeT {P : Program} {ops : Array Oper} {md : Region.Mode} {Q : Exit → Go.Act → World → Prop} {R : World → World → Prop} {I : World → Prop} {last : Nat} {i j l : Nat} {o p q : Oper} {fuel : Nat} {listed : Array Bool} {a : Go.Act} {w : World} (hcl : closedB md ops listed) (hr : Region.ready md ops listed = [i, j, l]) (ho : ops.toList[i]? = some o) (hp : ops.toList[j]? = some p) (hq : ops.toList[l]? = some q)
    (hwi : Region.wanted o (yielded ops a.tmps) = true) (hwj : Region.wanted p (yielded ops a.tmps) = true) (hwl : Region.wanted q (yielded ops a.tmps) = true) (hI : ∀ w', R w w' → I w')
    (h : ∀ w', R w w' → ∀ K' : Go.Act → World → Prop, (∀ a w, (closedB md ops (listed.setIfInBounds i true) → wpAnyR P md ops R I last Q fuel (listed.setIfInBounds i true) a w) → K' a w) → Oper.wp P o a w' K' Q)
    (h2 : ∀ w', R w w' → ∀ K' : Go.Act → World → Prop, (∀ a w, (closedB md ops (listed.setIfInBounds j true) → wpAnyR P md ops R I last Q fuel (listed.setIfInBounds j true) a w) → K' a w) → Oper.wp P p a w' K' Q)
    (h3 : ∀ w', R w w' → ∀ K' : Go.Act → World → Prop, (∀ a w, (closedB md ops (listed.setIfInBounds l true) → wpAnyR P md ops R I last Q fuel (listed.setIfInBounds l true) a w) → K' a w) → Oper.wp P q a w' K' Q) : wpAnyR P md ops R I last Q (fuel + 1) listed a w := by
  have hci : closedB md ops (listed.setIfInBounds i true) := closed_set hcl (by rw [hr]; simp)
  have hcj : closedB md ops (listed.setIfInBounds j true) := closed_set hcl (by rw [hr]; simp)
  have hck : closedB md ops (listed.setIfInBounds l true) := closed_set hcl (by rw [hr]; simp)
  rw [Array.getElem?_toList] at ho hp hq
  intro w' hw
  refine ⟨hI w' hw, by rw [hr]; simp, fun k hk => ?_⟩
  rw [hr] at hk
  rcases List.mem_cons.1 hk with rfl | hk
  · unfold wpOp
    simp only [ho, hwi, if_true]
    exact .inl (h w' hw _ (fun a w q => q hci))
  · rcases List.mem_cons.1 hk with rfl | hk
    · unfold wpOp
      simp only [hp, hwj, if_true]
      exact .inl (h2 w' hw _ (fun a w q => q hcj))
    · obtain rfl := List.mem_singleton.1 hk
      unfold wpOp
      simp only [hq, hwl, if_true]
      exact .inl (h3 w' hw _ (fun a w q => q hck))
theorem wpAnyR_twoU {P : Program} {ops : Array Oper} {md : Region.Mode} {Q : Exit → Go.Act → World → Prop} {R : World → World → Prop} {I : World → Prop} {last : Nat} {i j : Nat} {o p : Oper} {fuel : Nat} {listed : Array Bool} {a : Go.Act} {w : World} (hcl : closedB md ops listed) (hr : Region.ready md ops listed = [i, j]) (ho : ops.toList[i]? = some o) (hp : ops.toList[j]? = some p)
    (hwi : Region.wanted o (yielded ops a.tmps) = true) (hwj : Region.wanted p (yielded ops a.tmps) = true) (hI : ∀ w', R w w' → I w')
    (h : ∀ w', R w w' → ∀ K' : Go.Act → World → Prop, (∀ a w, (closedB md ops (listed.setIfInBounds i true) → wpAnyR P md ops R I last Q fuel (listed.setIfInBounds i true) a w) → K' a w) → Oper.wp P o a w' K' Q)
    (h2 : ∀ w', R w w' → ∀ K' : Go.Act → World → Prop, (∀ a w, (closedB md ops (listed.setIfInBounds j true) → wpAnyR P md ops R I last Q fuel (listed.setIfInBounds j true) a w) → K' a w) → Oper.wp P p a w' K' Q) : wpAnyR P md ops R I last Q (fuel + 1) listed a w := by
  have hci : closedB md ops (listed.setIfInBounds i true) := closed_set hcl (by rw [hr]; exact List.mem_cons_self ..)
  have hcj : closedB md ops (listed.setIfInBounds j true) := closed_set hcl (by rw [hr]; exact List.mem_cons_of_mem _ (List.mem_singleton.2 rfl))
  rw [Array.getElem?_toList] at ho hp
  intro w' hw
  refine ⟨hI w' hw, by rw [hr]; simp, fun k hk => ?_⟩
  rw [hr] at hk
  rcases List.mem_cons.1 hk with rfl | hk
  · unfold wpOp
    simp only [ho, hwi, if_true]
    exact .inl (h w' hw _ (fun a w q => q hci))
  · obtain rfl := List.mem_singleton.1 hk
    unfold wpOp
    simp only [hp, hwj, if_true]
    exact .inl (h2 w' hw _ (fun a w q => q hcj))
theorem Row5.grownB' {w w' : World} {lo j : Nat} {L : At5} {b : Bt} (h : Row5 w lo L b) (hg : w.grownBy w' (some j)) (hj : j < lo) : Row5 w' lo L b :=
  h.span ((Span.refl w j (j + 1)).grown hg (fun q e => by have := Option.some.inj e; omega)) (.inr hj)
/-- What stands: how many lists are copied, and which empty rows have been made. -/
structure Os (W1 : World) (b : Bt) (n : Nat) (L : At5) (P Q : Option Nat) (W : World) : Prop where
  bx : Below W1.heap.size W1 W
  h1 : 1 ≤ n → Own W W1.heap.size (.slice L.a1 b.st.length L.c1) b.st
  h2 : 2 ≤ n → Own W W1.heap.size (.slice L.a2 b.bt.length L.c2) b.bt ∧ Apt L.a1 L.a2
  h3 : 3 ≤ n → Own W W1.heap.size (.slice L.a3 b.pd.length L.c3) b.pd ∧ Apt L.a1 L.a3 ∧ Apt L.a2 L.a3
  p : ∀ g, P = some g → n ≤ 3 → OwnB W W1.heap.size (.slice (some ⟨g, 0, none⟩) 0 0) []
  q : ∀ g, Q = some g → n ≤ 4 → OwnB W W1.heap.size (.slice (some ⟨g, 0, none⟩) 0 0) []
  pq : n ≤ 3 → ∀ g g', P = some g → Q = some g' → g ≠ g'
  h4 : 4 ≤ n → OwnB W W1.heap.size (.slice L.a4 b.fo.length L.c4) b.fo ∧ ∀ g, Q = some g → Apt L.a4 (some ⟨g, 0, none⟩)
  h5 : 5 ≤ n → OwnB W W1.heap.size (.slice L.a5 b.ac.length L.c5) b.ac ∧ Apt L.a4 L.a5
section
variable {W1 W W' : World} {b : Bt} {n : Nat} {L : At5} {P Q : Option Nat}
theorem Os.start (W1 : World) (b : Bt) {W : World} (h : Below W1.heap.size W1 W) : Os W1 b 0 ⟨none, none, none, none, none, 0, 0, 0, 0, 0⟩ none none W :=
  ⟨h, fun h => by omega, fun h => by omega, fun h => by omega, fun _ e => (by cases e), fun _ e => (by cases e), fun _ _ _ e => (by cases e), fun h => by omega, fun h => by omega⟩
theorem Os.below (o : Os W1 b n L P Q W) (hb : Below W.heap.size W W') : Os W1 b n L P Q W' :=
  ⟨bl_trans o.bx hb, fun h => (o.h1 h).below hb, fun h => ⟨(o.h2 h).1.below hb, (o.h2 h).2⟩, fun h => ⟨(o.h3 h).1.below hb, (o.h3 h).2⟩, fun g e h => (o.p g e h).below hb, fun g e h => (o.q g e h).below hb, o.pq, fun h => ⟨(o.h4 h).1.below hb, (o.h4 h).2⟩, fun h => ⟨(o.h5 h).1.below hb, (o.h5 h).2⟩⟩
theorem apt_later {lo n c m d : Nat} {A B : Option Addr} {xs ys : List Int} (h : Own W lo (.slice A n c) xs) (k : Own W' W.heap.size (.slice B m d) ys) : Apt A B :=
  apt_lt (fun a e => (h.lo_le a e).2) (fun b e => (k.lo_le b e).1)
theorem Os.call1 (o : Os W1 b 0 L P Q W) {A : Option Addr} {c : Nat} (hn : Own W' W.heap.size (.slice A b.st.length c) b.st) (hb : Below W.heap.size W W') : Os W1 b 1 { L with a1 := A, c1 := c } P Q W' := by
  have o' := o.below hb
  exact ⟨o'.bx, fun _ => hn.less o.bx.size, fun h => by omega, fun h => by omega, fun g e _ => o'.p g e (by omega), fun g e _ => o'.q g e (by omega), fun _ => o.pq (by omega), fun h => by omega, fun h => by omega⟩
theorem Os.call2 (o : Os W1 b 1 L P Q W) {A : Option Addr} {c : Nat} (hn : Own W' W.heap.size (.slice A b.bt.length c) b.bt) (hb : Below W.heap.size W W') : Os W1 b 2 { L with a2 := A, c2 := c } P Q W' := by
  have o' := o.below hb
  exact ⟨o'.bx, fun _ => o'.h1 (by omega), fun _ => ⟨hn.less o.bx.size, apt_later (o.h1 (by omega)) hn⟩, fun h => by omega, fun g e _ => o'.p g e (by omega), fun g e _ => o'.q g e (by omega), fun _ => o.pq (by omega), fun h => by omega, fun h => by omega⟩
theorem Os.call3 (o : Os W1 b 2 L P Q W) {A : Option Addr} {c : Nat} (hn : Own W' W.heap.size (.slice A b.pd.length c) b.pd) (hb : Below W.heap.size W W') : Os W1 b 3 { L with a3 := A, c3 := c } P Q W' := by
  have o' := o.below hb
  exact ⟨o'.bx, fun _ => o'.h1 (by omega), fun _ => o'.h2 (by omega), fun _ => ⟨hn.less o.bx.size, apt_later (o.h1 (by omega)) hn, apt_later (o.h2 (by omega)).1 hn⟩, fun g e _ => o'.p g e (by omega), fun g e _ => o'.q g e (by omega), fun _ => o.pq (by omega), fun h => by omega, fun h => by omega⟩
theorem Os.mkP (o : Os W1 b n L none Q W) (hn : n ≤ 3) : Os W1 b n L (some W.heap.size) Q (W.alloc (.cells #[] 4)) := by
  have o' := o.below (bl_alloc (bl_refl W) (.cells #[] 4))
  have hN := (own_newB W).less o.bx.size
  refine ⟨o'.bx, o'.h1, o'.h2, o'.h3, fun g e _ => by obtain rfl := Option.some.inj e; exact hN, o'.q, fun _ g g' e e' => ?_, o'.h4, o'.h5⟩
  obtain rfl := Option.some.inj e
  have := ((o.q g' e' (by omega)).lo_le _ rfl).2
  simp only at this
  omega
theorem Os.mkQ (o : Os W1 b n L P none W) (hn : n ≤ 4) : Os W1 b n L P (some W.heap.size) (W.alloc (.cells #[] 4)) := by
  have o' := o.below (bl_alloc (bl_refl W) (.cells #[] 4))
  have hN := (own_newB W).less o.bx.size
  refine ⟨o'.bx, o'.h1, o'.h2, o'.h3, o'.p, fun g e _ => by obtain rfl := Option.some.inj e; exact hN, fun q g g' e e' => ?_, fun h => ⟨(o'.h4 h).1, fun g e => ?_⟩, o'.h5⟩
  · obtain rfl := Option.some.inj e'
    have := ((o.p g e q).lo_le _ rfl).2
    simp only at this
    omega
  · obtain rfl := Option.some.inj e
    intro a b' ea eb
    obtain rfl := Option.some.inj eb
    have := ((o.h4 h).1.lo_le a ea).2
    simp only
    omega
theorem Os.app4 {g : Nat} (o : Os W1 b 3 L (some g) Q W) {A : Option Addr} {c : Nat} {ws : List Bool} (e : ws = [] ++ b.fo) (hn : OwnB W' W1.heap.size (.slice A ws.length c) ws) (hg : W.grownBy W' (Value.slice (some ⟨g, 0, none⟩) 0 0).ownBlock)
    (hd : (Value.slice A ws.length c).ownBlock = (Value.slice (some ⟨g, 0, none⟩) 0 0).ownBlock ∨ (Value.slice A ws.length c).ownBlock = some W.heap.size) : Os W1 b 4 { L with a4 := A, c4 := c } (some g) Q W' := by
  obtain rfl : ws = b.fo := e
  have hp := o.p g rfl (by omega)
  have hg' : W.grownBy W' (some g) := hg
  have hl := (hp.lo_le _ rfl).1
  simp only at hl
  have up : ∀ {A : Option Addr} {n c : Nat} {xs : List Int}, Own W W1.heap.size (.slice A n c) xs → Own W' W1.heap.size (.slice A n c) xs := fun h => h.grown hg' (ne_types h hp)
  refine ⟨o.bx.grown hg' o.bx.size (fun j e => by have := Option.some.inj e; omega), fun _ => up (o.h1 (by omega)), fun _ => ⟨up (o.h2 (by omega)).1, (o.h2 (by omega)).2⟩, fun _ => ⟨up (o.h3 (by omega)).1, (o.h3 (by omega)).2⟩, fun g e h => by omega, fun g2 e2 _ => ?_, fun h => by omega, fun _ => ⟨hn, fun g2 e2 => ?_⟩, fun h => by omega⟩
  · exact (o.q g2 e2 (by omega)).grown hg' (.inr (fun q => o.pq (by omega) g g2 rfl e2 (by injection q with q; exact q.symm)))
  · intro a b' ea eb
    obtain rfl := Option.some.inj eb
    have h2 := ((o.q g2 e2 (by omega)).lo_le _ rfl).2
    have h3 := o.pq (by omega) g g2 rfl e2
    simp only at h2
    have ea : A = some a := ea
    rcases hd with q | q
    · rw [ea] at q
      have : a.block = g := by injection q
      simp only; omega
    · rw [ea] at q
      have : a.block = W.heap.size := by injection q
      simp only; omega
theorem Os.app5 {g : Nat} (o : Os W1 b 4 L P (some g) W) {A : Option Addr} {c : Nat} {ws : List Bool} (e : ws = [] ++ b.ac) (hn : OwnB W' W1.heap.size (.slice A ws.length c) ws) (hg : W.grownBy W' (Value.slice (some ⟨g, 0, none⟩) 0 0).ownBlock)
    (hd : (Value.slice A ws.length c).ownBlock = (Value.slice (some ⟨g, 0, none⟩) 0 0).ownBlock ∨ (Value.slice A ws.length c).ownBlock = some W.heap.size) : Os W1 b 5 { L with a5 := A, c5 := c } P (some g) W' := by
  obtain rfl : ws = b.ac := e
  have hp := o.q g rfl (by omega)
  have hg' : W.grownBy W' (some g) := hg
  have hl := (hp.lo_le _ rfl).1
  simp only at hl
  have up : ∀ {A : Option Addr} {n c : Nat} {xs : List Int}, Own W W1.heap.size (.slice A n c) xs → Own W' W1.heap.size (.slice A n c) xs := fun h => h.grown hg' (ne_types h hp)
  have h4 := o.h4 (by omega)
  have a4 := h4.2 g rfl
  refine ⟨o.bx.grown hg' o.bx.size (fun j e => by have := Option.some.inj e; omega), fun _ => up (o.h1 (by omega)), fun _ => ⟨up (o.h2 (by omega)).1, (o.h2 (by omega)).2⟩, fun _ => ⟨up (o.h3 (by omega)).1, (o.h3 (by omega)).2⟩, fun g e h => by omega, fun g e h => by omega, fun h => by omega, fun _ => ⟨h4.1.grown hg' (.inr (fun q => ?_)), h4.2⟩, fun _ => ⟨hn, ?_⟩⟩
  · obtain ⟨a, ea, eb⟩ := ob_slice _ _ _ _ q
    exact a4 a _ ea rfl eb
  · intro a b' ea eb
    have h2 := (h4.1.lo_le a ea).2
    have eb : A = some b' := eb
    rcases hd with q | q
    · rw [eb] at q
      have : b'.block = g := by injection q
      have := a4 a _ ea rfl
      simp only at this; omega
    · rw [eb] at q
      have : b'.block = W.heap.size := by injection q
      omega
theorem Os.done (o : Os W1 b 5 L P Q W) : Row5 W W1.heap.size L b :=
  ⟨Row.of_own (o.h1 (by omega)), Row.of_own (o.h2 (by omega)).1, Row.of_own (o.h3 (by omega)).1, RowB.of_own (o.h4 (by omega)).1, RowB.of_own (o.h5 (by omega)).1,
   (o.h2 (by omega)).2, (o.h3 (by omega)).2.1, apt_types (o.h1 (by omega)) (o.h4 (by omega)).1, apt_types (o.h1 (by omega)) (o.h5 (by omega)).1, (o.h3 (by omega)).2.2, apt_types (o.h2 (by omega)).1 (o.h4 (by omega)).1, apt_types (o.h2 (by omega)).1 (o.h5 (by omega)).1, apt_types (o.h3 (by omega)).1 (o.h4 (by omega)).1, apt_types (o.h3 (by omega)).1 (o.h5 (by omega)).1, (o.h5 (by omega)).2⟩
end
end Go.Proofs.Ytnllndcajdofjaa

namespace Go.Proofs.Ytnllndcajdofjaa
open Go.RowKit
set_option linter.unusedVariables false

set_option maxRecDepth 100000 in
set_option maxHeartbeats 400000 in
theorem own_any (A : Option Addr) (c : Nat) (xs : List Int) (w : World) (hr : Rd w A xs) (hn : xs.length ≤ 4000000) :
    Calls Try.prog 154 #[.slice A xs.length c] w (NewL xs w) := by
  have HR := Lib.hid (hr.below (bl_alloc (bl_refl w) (.cells #[] 2)))
  have HE := Lib.hid (own_new w)
  have HB : Hid (([] : List Int).length + xs.length ≤ 4000000) := Lib.hid (by simpa using hn)
  have HZ : Hid (w.heap.size ≤ (w.alloc (.cells #[] 2)).heap.size) := Lib.hid (by simp)
  clear hr
  go_enter Try.func154, Try.ntmps154
  go_wp2_with (at_builtin; refine wpList_glue (.tmp 3) (.tmp 4) rfl rfl w.heap.size (.slice (some ⟨w.heap.size, 0, none⟩) 0 0) [] xs A c rfl HE.out rfl HR.out HB.out HZ.out ?_)
  intro A' c' ws w' e ho hg _
  have HO := Lib.hid ho
  have HG := Lib.hid (bl_glue (bl_refl w) hg)
  have HW : Hid (ws = xs) := Lib.hid (by simpa using e.out)
  clear ho hg e
  go_wp2_with fail
  go_ret
  obtain rfl := HW.out
  exact ⟨_, _, rfl, HO.out, HG.out⟩

end Go.Proofs.Ytnllndcajdofjaa
