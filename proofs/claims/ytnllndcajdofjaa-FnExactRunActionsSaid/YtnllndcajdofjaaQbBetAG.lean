/-
  Put together, what this law needs of: BetA, StoreB, TabHelp, BetHelp.
-/
import Derived.Test.YtnllndcajdofjaaQbBoolLG
import Derived.Test.YtnllndcajdofjaaQbBaseG
import Derived.BigQuiet
namespace Go.Proofs.Ytnllndcajdofjaa
open Go.RowKit
set_option linter.unusedVariables false

/-- What a call leaves that only reads (it may draw). -/
def Qt (v : Value) (w : World) (e : Ending) (w' : World) : Prop := e = .returned v ∧ ∃ m, w' = w.drewN m
theorem qt_of_same {P : Program} {f : FuncId} {args : Array Value} {w : World} {v : Value} (h : Calls P f args w (Same v w)) : Calls P f args w (Qt v w) := h.mono fun _ _ ⟨he, hw⟩ => ⟨he, 0, by rw [← hw]; rfl⟩
theorem fresh_of_qt {P : Program} {f : FuncId} {args : Array Value} {w : World} {v : Value} (h : Calls P f args w (Qt v w)) : Calls P f args w (Fresh v w) := h.mono fun _ _ ⟨he, m, hw⟩ => ⟨he, by rw [hw]; exact bl_drewN (bl_refl _) m⟩
/-- A round in a block of its own. -/
structure BtAt (w : World) (g : Nat) (L : At5) (b : Bt) : Prop where
  blk : Blk w g 27 (btL L b)
  rd : Rd5 w L b
theorem BtAt.below {w w' : World} {g : Nat} {L : At5} {b : Bt} (h : BtAt w g L b) (hb : Below w.heap.size w w') : BtAt w' g L b := ⟨h.blk.below hb, h.rd.below hb⟩
theorem BtAt.drew {w : World} {g : Nat} {L : At5} {b : Bt} (h : BtAt w g L b) (n : Nat) : BtAt (w.drewN n) g L b := h.below (bl_drewN (bl_refl _) n)
theorem RdB.at_0 {w : World} {A : Option Addr} {xs : List Bool} (h : RdB w A xs) (k : Nat) (hk : k < xs.length) : ∃ b off, A = some ⟨b, off, none⟩ ∧ w.cell? ⟨b, off + k, none⟩ = some (.bool (nthB xs k)) := h.at_ (bl_refl _) k hk
theorem Rd.at_0 {w : World} {A : Option Addr} {xs : List Int} (h : Rd w A xs) (k : Nat) (hk : k < xs.length) : ∃ b off, A = some ⟨b, off, none⟩ ∧ w.cell? ⟨b, off + k, none⟩ = some (.int .i64 (nth xs k)) := h.at_ (bl_refl _) k hk

set_option maxRecDepth 100000 in
set_option maxHeartbeats 400000 in
theorem isChipSum_any (x : Int) (w : World) : Calls Try.prog 141 #[.int .i64 x] w (Same (.bool (inB x 0 600000)) w) := by
  by_cases h : x < 0
  · have H := Lib.hid (inB_lo x 0 600000 h)
    go_enter Try.func141, Try.ntmps141
    go_wp2
    go_ret
    exact ⟨ret_bool (by rw [H.out]), rfl⟩
  · by_cases h2 : 600000 < x
    · have H := Lib.hid (inB_hi x 0 600000 h2)
      go_enter Try.func141, Try.ntmps141
      go_wp2
      go_ret
      exact ⟨ret_bool (by rw [H.out]; exact decide_eq_false (by omega)), rfl⟩
    · have H := Lib.hid (inB_yes x 0 600000 (by omega) (by omega))
      go_enter Try.func141, Try.ntmps141
      go_wp2
      go_ret
      exact ⟨ret_bool (by rw [H.out]), rfl⟩
/-- All numbers of a list are chips of a round. -/
def sumsB (xs : List Int) : Bool := decide (∀ i, i < xs.length → 0 ≤ nth xs i ∧ nth xs i ≤ 600000)
theorem sumsB_iff {xs : List Int} : sumsB xs = true ↔ inC xs := by unfold sumsB inC; exact decide_eq_true_iff
theorem sumsB_no {xs : List Int} (k : Nat) (hk : k < xs.length) (h : ¬ (0 ≤ nth xs k ∧ nth xs k ≤ 600000)) : sumsB xs = false := by
  unfold sumsB; exact decide_eq_false fun hh => h (hh k hk)
set_option maxRecDepth 100000 in
set_option maxHeartbeats 1000000 in
theorem areSums_any (A : Option Addr) (c : Nat) (xs : List Int) (w : World) (hr : Rd w A xs) (hn : xs.length ≤ 4000000) :
    Calls Try.prog 140 #[.slice A xs.length c, .func (.func 141) #[] #[]] w (Same (.bool (sumsB xs)) w) := by
  have HR := Lib.hid hr
  have KS := Lib.hid (fun (x : Int) (W : World) => isChipSum_any x W)
  have HT : Hid (∀ k, k < xs.length → inB (nth xs k) 0 600000 = false → sumsB xs = false) := Lib.hid (fun k hk h => sumsB_no k hk (fun q => by rw [inB_yes _ _ _ q.1 q.2] at h; cases h))
  clear hr
  go_enter Try.func140, Try.ntmps140
  go_wp2_with fail
  go_loop [9] (fun i => ∃ k : Nat, k ≤ xs.length ∧ i = .int .i64 k ∧ Hid (∀ j, j < k → 0 ≤ nth xs j ∧ nth xs j ≤ 600000)) (fun i => xs.length - (intOf i).toNat)
  case atStart => exact ⟨0, Nat.zero_le _, rfl, Lib.hid (fun j hj => by omega)⟩
  case round =>
    obtain ⟨k, hk, rfl, hs⟩ := hrel
    by_cases hlt : k < xs.length
    · obtain ⟨bA, oA, rfl, hc⟩ := HR.out.at_ (bl_refl _) k hlt
      have hlt' : (k : Int) < xs.length := by omega
      have KX := Lib.hid (fun W => KS.out (nth xs k) W)
      rcases hb : inB (nth xs k) 0 600000 with _ | _
      · have HF := Lib.hid (HT.out k hlt hb)
        rw [hb] at KX
        clear hs hb
        generalize nth xs k = x at *
        go_wp2_with (go_at_call 141; refine (KX.out _).mono ?_; rintro e wn ⟨rfl, rfl⟩)
        go_ret
        exact ⟨ret_bool HF.out.symm, rfl⟩
      · have HN : Hid (∀ j, j < k + 1 → 0 ≤ nth xs j ∧ nth xs j ≤ 600000) := Lib.hid (fun j hj => by
          by_cases e : j = k
          · subst e; unfold inB at hb; exact of_decide_eq_true hb
          · exact hs.out j (by omega))
        rw [hb] at KX
        clear hs hb
        generalize nth xs k = x at KX hc
        go_wp2_with (go_at_call 141; refine (KX.out _).mono ?_; rintro e wn ⟨rfl, rfl⟩)
        go_round
        case rel => exact ⟨k + 1, by omega, by go_num, HN⟩
        case measure => simp [intOf]; omega
    · obtain rfl : k = xs.length := by omega
      have HF := Lib.hid (sumsB_iff.2 hs.out)
      clear hs
      go_wp2_with fail
      go_ret
      exact ⟨ret_bool HF.out.symm, rfl⟩
set_option maxRecDepth 100000 in
set_option maxHeartbeats 1000000 in
theorem sumOf_any (A : Option Addr) (c : Nat) (xs : List Int) (w : World) (hr : Rd w A xs) (hn : xs.length ≤ 4000000) (hb : inC xs) :
    Calls Try.prog 153 #[.slice A xs.length c] w (Same (.int .i64 (sumT xs xs.length)) w) := by
  have HR := Lib.hid hr
  have HB := Lib.hid (sumT_bdC xs hb)
  have HE := Lib.hid hb
  clear hr hb
  go_enter Try.func153, Try.ntmps153
  go_wp2_with fail
  go_loop [3, 8] (fun s i => ∃ k : Nat, k ≤ xs.length ∧ i = .int .i64 k ∧ s = .int .i64 (sumT xs k)) (fun _ i => xs.length - (intOf i).toNat)
  case atStart => exact ⟨0, Nat.zero_le _, rfl, rfl⟩
  case round =>
    obtain ⟨k, hk, rfl, rfl⟩ := hrel
    by_cases hlt : k < xs.length
    · obtain ⟨b, off, rfl, hc⟩ := HR.out.at_ (bl_refl _) k hlt
      have hlt' : (k : Int) < xs.length := by omega
      have h1 := HB.out k hk
      have h2 := HE.out k hlt
      have HS : Hid (sumT xs (k + 1) = sumT xs k + nth xs k) := Lib.hid rfl
      obtain ⟨q, eq⟩ : ∃ q, q = sumT xs k := ⟨_, rfl⟩
      rw [← eq] at h1 HS ⊢
      clear eq
      generalize nth xs k = x at *
      go_wp2_with fail
      go_round
      case rel => exact ⟨k + 1, by omega, by go_num, by rw [HS.out]⟩
      case measure => simp [intOf]; omega
    · obtain rfl : k = xs.length := by omega
      go_wp2_with fail
      go_ret
      exact ⟨rfl, rfl⟩
/-- The greatest of the first k + 1, from the first on. -/
def maxF (xs : List Int) : Nat → Int
  | 0 => nth xs 0
  | k + 1 => if maxF xs k < nth xs (k + 1) then nth xs (k + 1) else maxF xs k
theorem maxF_K (xs : List Int) (h : 0 ≤ nth xs 0) : ∀ k, maxF xs k = maxK xs (k + 1)
  | 0 => by
    show nth xs 0 = if 0 < nth xs 0 then nth xs 0 else 0
    by_cases hp : 0 < nth xs 0
    · rw [if_pos hp]
    · rw [if_neg hp]; omega
  | k + 1 => by
    have ih := maxF_K xs h k
    show (if maxF xs k < nth xs (k + 1) then nth xs (k + 1) else maxF xs k) = if maxK xs (k + 1) < nth xs (k + 1) then nth xs (k + 1) else maxK xs (k + 1)
    rw [ih]
set_option maxRecDepth 100000 in
set_option maxHeartbeats 1000000 in
theorem slicesMax_any (A : Option Addr) (c : Nat) (xs : List Int) (w : World) (hr : Rd w A xs) (hn : xs.length ≤ 4000000) (h0 : 0 < xs.length) (hb : 0 ≤ nth xs 0) :
    Calls Try.prog 166 #[.slice A xs.length c] w (Same (.int .i64 (maxK xs xs.length)) w) := by
  have HR := Lib.hid hr
  have HF := Lib.hid (maxF_K xs hb)
  obtain ⟨b0, off0, e0, hc0⟩ := hr.at_ (bl_refl _) 0 h0
  clear hr hb
  have h0' : (0 : Int) < xs.length := by omega
  have d1 : decide ((xs.length : Int) < 1) = false := decide_eq_false (by omega)
  subst e0
  obtain ⟨x0, e0⟩ : ∃ x0, x0 = nth xs 0 := ⟨_, rfl⟩
  rw [← e0, Nat.add_zero] at hc0
  have H0 : Hid (maxF xs 0 = x0) := Lib.hid e0.symm
  clear e0
  go_enter Try.func166, Try.ntmps166
  go_wp2_with fail
  go_loop [3, 4] (fun s i => ∃ k : Nat, k + 1 ≤ xs.length ∧ i = .int .i64 (k + 1 : Nat) ∧ s = .int .i64 (maxF xs k)) (fun _ i => xs.length - (intOf i).toNat)
  case atStart => exact ⟨0, by omega, rfl, by rw [H0.out]⟩
  case round =>
    obtain ⟨k, hk, rfl, rfl⟩ := hrel
    obtain ⟨q, eq⟩ : ∃ q : Nat, q = k + 1 := ⟨_, rfl⟩
    rw [← eq] at hk ⊢
    by_cases hlt : q < xs.length
    · obtain ⟨b, off, eA, hc⟩ := HR.out.at_ (bl_refl _) q hlt
      obtain ⟨rfl, rfl⟩ : b = b0 ∧ off = off0 := by simpa using eA.symm
      have hlt' : (q : Int) < xs.length := by omega
      have HS : Hid (maxF xs (k + 1) = if maxF xs k < nth xs q then nth xs q else maxF xs k) := Lib.hid (by rw [eq]; rfl)
      clear eA
      have HQ := Lib.hid eq
      clear eq
      generalize maxF xs k = m at *
      generalize nth xs q = x at *
      by_cases hmx : m < x
      · have d2 : (if x > m then Value.int .i64 x else Value.int .i64 m) = Value.int .i64 x := if_pos hmx
        go_wp2_with fail
        go_round
        case rel => exact ⟨k + 1, by have := HQ.out; omega, by have := HQ.out; rw [← this]; go_num, by rw [HS.out, if_pos hmx]⟩
        case measure => simp [intOf]; omega
      · have d2 : (if x > m then Value.int .i64 x else Value.int .i64 m) = Value.int .i64 m := if_neg hmx
        go_wp2_with fail
        go_round
        case rel => exact ⟨k + 1, by have := HQ.out; omega, by have := HQ.out; rw [← this]; go_num, by rw [HS.out, if_neg hmx]⟩
        case measure => simp [intOf]; omega
    · have HX : Hid (maxF xs k = maxK xs xs.length) := Lib.hid (by rw [HF.out k]; congr 1; omega)
      generalize maxF xs k = m at *
      clear eq
      have d3 : decide ((q : Int) < xs.length) = false := decide_eq_false (by omega)
      go_wp2_with fail
      go_ret
      exact ⟨by rw [HX.out]; rfl, rfl⟩
/-- Whether one of a list is false. -/
def someF (xs : List Bool) : Bool := !decide (∀ i, i < xs.length → nthB xs i = true)
set_option maxRecDepth 100000 in
set_option maxHeartbeats 1000000 in
theorem indexF_any (A : Option Addr) (c : Nat) (xs : List Bool) (w : World) (hr : RdB w A xs) (hn : xs.length ≤ 4000000) :
    Calls Try.prog 167 #[.slice A xs.length c, .bool false] w (fun e w' => ∃ i : Int, e = .returned (.int .i64 i) ∧ decide (0 ≤ i) = someF xs ∧ w = w') := by
  have HR := Lib.hid hr
  clear hr
  go_enter Try.func167, Try.ntmps167
  go_wp2_with fail
  go_loop [8] (fun i => ∃ k : Nat, k ≤ xs.length ∧ i = .int .i64 k ∧ Hid (∀ j, j < k → nthB xs j = true)) (fun i => xs.length - (intOf i).toNat)
  case atStart => exact ⟨0, Nat.zero_le _, rfl, Lib.hid (fun j hj => by omega)⟩
  case round =>
    obtain ⟨k, hk, rfl, hs⟩ := hrel
    by_cases hlt : k < xs.length
    · obtain ⟨bA, oA, rfl, hc⟩ := HR.out.at_ (bl_refl _) k hlt
      have hlt' : (k : Int) < xs.length := by omega
      rcases hb : nthB xs k with _ | _
      · have HF : Hid (someF xs = true) := Lib.hid (by unfold someF; rw [decide_eq_false (fun q => by have := q k hlt; rw [hb] at this; cases this)]; rfl)
        rw [hb] at hc
        clear hs hb
        go_wp2_with fail
        go_ret
        exact ⟨k, rfl, by rw [HF.out]; exact decide_eq_true (by omega), rfl⟩
      · have HN : Hid (∀ j, j < k + 1 → nthB xs j = true) := Lib.hid (fun j hj => by
          by_cases e : j = k
          · subst e; exact hb
          · exact hs.out j (by omega))
        rw [hb] at hc
        clear hs hb
        go_wp2_with fail
        go_round
        case rel => exact ⟨k + 1, by omega, by go_num, HN⟩
        case measure => simp [intOf]; omega
    · obtain rfl : k = xs.length := by omega
      have HF : Hid (someF xs = false) := Lib.hid (by unfold someF; rw [decide_eq_true hs.out]; rfl)
      clear hs
      go_wp2_with fail
      go_ret
      exact ⟨-1, rfl, by rw [HF.out]; rfl, rfl⟩
set_option maxRecDepth 100000 in
set_option maxHeartbeats 1000000 in
theorem containsF_any (A : Option Addr) (c : Nat) (xs : List Bool) (w : World) (hr : RdB w A xs) (hn : xs.length ≤ 4000000) :
    Calls Try.prog 139 #[.slice A xs.length c, .bool false] w (Same (.bool (someF xs)) w) := by
  have K := Lib.hid (fun (W : World) (h : w = W) => indexF_any A c xs W (h ▸ hr) hn)
  clear hr
  obtain ⟨w0, rfl⟩ : ∃ w0 : World, w0 = w := ⟨w, rfl⟩
  go_enter Try.func139, Try.ntmps139
  go_wp2_with (go_at_call 167; refine (K.out _ rfl).mono ?_; rintro e wn ⟨i, rfl, hi, rfl⟩; have HI := Lib.hid hi; clear hi)
  go_ret
  exact ⟨ret_bool HI.out, rfl⟩
end Go.Proofs.Ytnllndcajdofjaa

namespace Go.Proofs.Ytnllndcajdofjaa
open Go.RowKit
set_option linter.unusedVariables false

variable {P : Program}
theorem run_store1 (w : World) (ad : Addr) (t : TypeId) (v old : Value) (hi : (P.info? t).map (·.size) = some 1) (h1 : v.oneCell' = true) (hc : w.cell? ad = some old) (hf : w.frozen? ad = false) :
    (storeVar t ad v).run P w = .ok () (w.setCell ad v) := by
  have hcs : v.cells = #[v] := by cases v <;> first | rfl | cases h1
  have ha : ad.add 0 = ad := by cases ad; rfl
  cases hq : P.info? t with
  | none => simp [hq] at hi
  | some i =>
    have hs : i.size = 1 := by simpa [hq] using hi
    simp [storeVar, sizeOf, typeInfo, hq, hcs, hs, storeCells, run_store P w ad v _ h1, hc, hf, ha]
/-- A value of one cell goes into a place of a block that is known whole. -/
theorem wpList_store_at {ops : Array Oper} {rest : List Oper} {o : Oper} {a : Go.Act} {w : World} {Q : Exit → Go.Act → World → Prop} (t : TypeId) (hgd : o.guard = none) (x y : Operand) (ho : o.op = .store t x y)
    (hi : (P.info? t).map (·.size) = some 1) (g i : Nat) (hx : a.eval x = .pointer (some ⟨g, i, none⟩)) (v : Value) (hy : a.eval y = v) (h1 : v.oneCell' = true) (T : TypeId) (vs : List Value) (hB : Blk w g T vs) (hl : i < vs.length)
    (h : ∀ w', Blk w' g T (vs.set i v) → w.grownBy w' (some g) → wpList P ops Q rest (a.put o.dst undef) w') : wpList P ops Q (o :: rest) a w :=
  wpList_plain hgd fun _ hK => by
    obtain ⟨hc, hf⟩ := hB.cell i _ (List.getElem?_eq_getElem hl)
    unfold Oper.wp execOp
    simp only [ho, hx, hy, Instr.storeAt, Instr.sureAddr, Sem.run_bind, Sem.run_pure, Result.andThen_ok, run_store1 w _ t v _ hi h1 hc hf]
    obtain ⟨k1, k2⟩ := blk_set hB i v
    exact hK _ _ (h _ k1 k2)
/-- A whole variable is stored, in a region that draws. -/
theorem wp_store_blk {o : Oper} {a : Go.Act} {w : World} {K : Go.Act → World → Prop} {Q : Exit → Go.Act → World → Prop} (t : TypeId) (n : Nat) (x y : Operand) (ho : o.op = .store t x y)
    (hi : (P.info? t).map (·.size) = some n)
    (g : Nat) (hx : a.eval x = .pointer (some ⟨g, 0, none⟩)) (vs : List Value) (hy : a.eval y = .agg vs.toArray) (hl : vs.length = n) (h1 : ∀ v ∈ vs, v.oneCell' = true) (old : List Value) (hg : Blk w g t old) (hs : old.length = n)
    (h : ∀ w', Blk w' g t vs → w.grownBy w' (some g) → K (a.put o.dst undef) w') : o.wp P a w K Q := by
  have hr := run_storeVar_row (P := P) w g t t old.toArray vs.toArray hg (by rw [List.size_toArray, hl]; exact hi) (by simp [hl, hs]) (all_oneCell_toArray h1)
  unfold Oper.wp execOp
  simp only [ho, hx, hy, Instr.storeAt, Instr.sureAddr, Sem.run_bind, Sem.run_pure, Result.andThen_ok, hr]
  exact h _ (setRow_heap w g old.toArray _ _ _ hg) ⟨rfl, rfl, rfl, by simp, fun k hk hne => setRow_other w g k _ (fun e => hne (by rw [e]))⟩
theorem own_block {w : World} {lo g : Nat} {A : Option Addr} {n c : Nat} {xs : List Int} (h : Own w lo (.slice A n c) xs) (hg : g < lo) : (Value.slice A n c).ownBlock = none ∨ (Value.slice A n c).ownBlock ≠ some g := by
  rcases A with _ | a
  · exact .inl rfl
  · right
    intro e
    have k1 := World.ownsRow.lt h a.block rfl
    have : a.block = g := by injection e
    omega
/-- A variable of one value of several cells is loaded whole, by its type. -/
theorem below_grown1 {a w w' : World} {g : Nat} (hb : Below a.heap.size a w) (hg : w.grownBy w' (some g)) (hl : a.heap.size ≤ g) : Below a.heap.size a w' :=
  hb.grown hg hb.size (fun j hj => by injection hj with hj; omega)
theorem hb_grown {w w' : World} {g g' : Nat} {t : TypeId} {vs : List Value} (h : Hid (Blk w g t vs)) (hg : w.grownBy w' (some g')) (hne : g ≠ g') : Hid (Blk w' g t vs) := Lib.hid (h.out.grown hg (fun e => hne (Option.some.inj e)))
theorem ho_grown {w w' : World} {lo g : Nat} {A : Option Addr} {n c : Nat} {xs : List Int} (h : Hid (Own w lo (.slice A n c) xs)) (hg : w.grownBy w' (some g)) (hl : g < lo) : Hid (Own w' lo (.slice A n c) xs) := Lib.hid (h.out.grown hg (own_block h.out hl))
theorem hbl_grown {a w w' : World} {g : Nat} (hb : Hid (Below a.heap.size a w)) (hg : w.grownBy w' (some g)) (hl : a.heap.size ≤ g) : Hid (Below a.heap.size a w') := Lib.hid (below_grown1 hb.out hg hl)
theorem hle_grown {w w' : World} {r : Option Nat} {k : Nat} (h : Hid (k ≤ w.heap.size)) (hg : w.grownBy w' r) : Hid (k ≤ w'.heap.size) := Lib.hid (Nat.le_trans h.out hg.size)
theorem bl_drewT {a b : World} (h : Below a.drew.heap.size a.drew b) : Below a.heap.size a b := bl_trans (bl_drew (bl_refl a)) h
end Go.Proofs.Ytnllndcajdofjaa

namespace Go.Proofs.Ytnllndcajdofjaa
open Go.RowKit
set_option linter.unusedVariables false

theorem blk_ne_ge {W : World} {lo g n c : Nat} {A : Option Addr} {xs : List Int} (h : Row W lo A xs) (hg : W.heap.size ≤ g) : some g ≠ (Value.slice A n c).ownBlock := by
  rcases A with _ | a
  · intro e; cases e
  · intro e
    have k := (h.1 a rfl).2
    have : g = a.block := by injection e
    omega
set_option maxRecDepth 100000 in
set_option maxHeartbeats 400000 in
theorem szInts_any (A : Option Addr) (n c : Nat) (q : Int) (w : World) (h0 : 0 ≤ q) (h1 : q ≤ 2000000) (hn : n ≤ 9223372036854775807) :
    Calls Try.prog 113 #[.slice A n c, .int .i64 q] w (Same (.int .i64 (if q - n < 0 then -1 else q - n)) w) := by
  by_cases hq : q - n < 0
  · rw [if_pos hq]
    go_enter Try.func113, Try.ntmps113
    go_wp2_with fail
    go_ret
    exact ⟨rfl, rfl⟩
  · rw [if_neg hq]
    go_enter Try.func113, Try.ntmps113
    go_wp2_with fail
    go_ret
    exact ⟨rfl, rfl⟩
end Go.Proofs.Ytnllndcajdofjaa

namespace Go.Proofs.Ytnllndcajdofjaa
open Go.Joins Go.ChangeShapes Go.WideShapes Go.ChangeAt Go.RowKit Go.Deep
set_option linter.unusedVariables false

theorem ownB_block {w : World} {lo g : Nat} {A : Option Addr} {n c : Nat} {xs : List Bool} (h : OwnB w lo (.slice A n c) xs) (hg : g < lo) : (Value.slice A n c).ownBlock = none ∨ (Value.slice A n c).ownBlock ≠ some g := by
  rcases A with _ | a
  · exact .inl rfl
  · right
    intro e
    have k1 := World.ownsRow.lt h a.block rfl
    have : a.block = g := by injection e
    omega
theorem hoB_grown {w w' : World} {lo g : Nat} {A : Option Addr} {n c : Nat} {xs : List Bool} (h : Hid (OwnB w lo (.slice A n c) xs)) (hg : w.grownBy w' (some g)) (hl : g < lo) : Hid (OwnB w' lo (.slice A n c) xs) := Lib.hid (h.out.grown hg (ownB_block h.out hl))
/-- Two lists lie in different blocks. -/
def Apt (A B : Option Addr) : Prop := ∀ a b, A = some a → B = some b → a.block ≠ b.block
/-- A round whose lists are rows of the call's own, apart. -/
structure Row5 (w : World) (lo : Nat) (L : At5) (b : Bt) : Prop where
  r1 : Row w lo L.a1 b.st
  r2 : Row w lo L.a2 b.bt
  r3 : Row w lo L.a3 b.pd
  r4 : RowB w lo L.a4 b.fo
  r5 : RowB w lo L.a5 b.ac
  p12 : Apt L.a1 L.a2
  p13 : Apt L.a1 L.a3
  p14 : Apt L.a1 L.a4
  p15 : Apt L.a1 L.a5
  p23 : Apt L.a2 L.a3
  p24 : Apt L.a2 L.a4
  p25 : Apt L.a2 L.a5
  p34 : Apt L.a3 L.a4
  p35 : Apt L.a3 L.a5
  p45 : Apt L.a4 L.a5
theorem Row5.rd {w : World} {lo : Nat} {L : At5} {b : Bt} (h : Row5 w lo L b) : Rd5 w L b := ⟨h.r1.rd, h.r2.rd, h.r3.rd, h.r4.rd, h.r5.rd⟩
theorem Row5.below {w w' : World} {lo : Nat} {L : At5} {b : Bt} (h : Row5 w lo L b) (hb : Below w.heap.size w w') : Row5 w' lo L b := ⟨h.r1.below hb, h.r2.below hb, h.r3.below hb, h.r4.below hb, h.r5.below hb, h.p12, h.p13, h.p14, h.p15, h.p23, h.p24, h.p25, h.p34, h.p35, h.p45⟩
theorem Row5.less {w : World} {lo lo' : Nat} {L : At5} {b : Bt} (h : Row5 w lo L b) (hl : lo' ≤ lo) : Row5 w lo' L b := ⟨h.r1.less hl, h.r2.less hl, h.r3.less hl, h.r4.less hl, h.r5.less hl, h.p12, h.p13, h.p14, h.p15, h.p23, h.p24, h.p25, h.p34, h.p35, h.p45⟩
/-- What a call leaves that returns a new round. -/
def NewBt (b : Bt) (w : World) (e : Ending) (w' : World) : Prop := ∃ L, e = .returned (bV L b) ∧ Row5 w' w.heap.size L b ∧ Below w.heap.size w w'
theorem apt_lt {A B : Option Addr} {n : Nat} (h1 : ∀ a, A = some a → a.block < n) (h2 : ∀ b, B = some b → n ≤ b.block) : Apt A B := fun a b ea eb => by have := h1 a ea; have := h2 b eb; omega
/-- The lists of a round are not too long. -/
structure Sm (b : Bt) : Prop where
  m1 : b.st.length ≤ 1048576
  m2 : b.bt.length ≤ 1048576
  m3 : b.pd.length ≤ 1048576
  m4 : b.fo.length ≤ 1048576
  m5 : b.ac.length ≤ 1048576
set_option maxRecDepth 100000 in
set_option maxHeartbeats 4000000 in
theorem szBetting_yes (L : At5) (b : Bt) (q0 : Int) (w : World) (h0 : 0 ≤ q0) (h1 : q0 ≤ 2000000) (hs : 0 ≤ q0 - (b.st.length : Int) - (b.bt.length : Int) - (b.pd.length : Int) - (b.fo.length : Int) - (b.ac.length : Int)) :
    Calls Try.prog 59 #[bV L b, .int .i64 q0] w (Fresh (.int .i64 (q0 - (b.st.length : Int) - (b.bt.length : Int) - (b.pd.length : Int) - (b.fo.length : Int) - (b.ac.length : Int))) w) := by
  have K0 := Lib.hid (fun W => szInts_any L.a1 b.st.length L.c1 (q0) W (by omega) (by omega) (by omega))
  have K1 := Lib.hid (fun W => szInts_any L.a2 b.bt.length L.c2 (q0 - (b.st.length : Int)) W (by omega) (by omega) (by omega))
  have K2 := Lib.hid (fun W => szInts_any L.a3 b.pd.length L.c3 (q0 - (b.st.length : Int) - (b.bt.length : Int)) W (by omega) (by omega) (by omega))
  have K3 := Lib.hid (fun W => szBools_any L.a4 b.fo.length L.c4 (q0 - (b.st.length : Int) - (b.bt.length : Int) - (b.pd.length : Int)) W (by omega) (by omega) (by omega))
  have K4 := Lib.hid (fun W => szBools_any L.a5 b.ac.length L.c5 (q0 - (b.st.length : Int) - (b.bt.length : Int) - (b.pd.length : Int) - (b.fo.length : Int)) W (by omega) (by omega) (by omega))
  rw [if_neg (by omega)] at K0
  rw [if_neg (by omega)] at K1
  rw [if_neg (by omega)] at K2
  rw [if_neg (by omega)] at K3
  rw [if_neg (by omega)] at K4
  have N0 := Lib.hid (blk_new w 70 (btL L b))
  have B := Lib.hid (bl_alloc (bl_refl w) (.cells (btL L b).toArray 70))
  have N1 := N0.out
  obtain ⟨z0, _⟩ := N1.cell 0 _ rfl
  obtain ⟨z1, _⟩ := N1.cell 1 _ rfl
  obtain ⟨z2, _⟩ := N1.cell 2 _ rfl
  obtain ⟨z3, _⟩ := N1.cell 3 _ rfl
  obtain ⟨z4, _⟩ := N1.cell 4 _ rfl
  clear N1
  unfold bV
  have d1 : decide (q0 - (b.st.length : Int) < 0) = false := decide_eq_false (by omega)
  have d2 : decide (q0 - (b.st.length : Int) - (b.bt.length : Int) < 0) = false := decide_eq_false (by omega)
  have d3 : decide (q0 - (b.st.length : Int) - (b.bt.length : Int) - (b.pd.length : Int) < 0) = false := decide_eq_false (by omega)
  have d4 : decide (q0 - (b.st.length : Int) - (b.bt.length : Int) - (b.pd.length : Int) - (b.fo.length : Int) < 0) = false := decide_eq_false (by omega)
  have d5 : decide (q0 - (b.st.length : Int) - (b.bt.length : Int) - (b.pd.length : Int) - (b.fo.length : Int) - (b.ac.length : Int) < 0) = false := decide_eq_false (by omega)
  obtain ⟨r1, er1⟩ : ∃ r : Int, r = q0 - (b.st.length : Int) := ⟨_, rfl⟩
  obtain ⟨r2, er2⟩ : ∃ r : Int, r = r1 - (b.bt.length : Int) := ⟨_, rfl⟩
  obtain ⟨r3, er3⟩ : ∃ r : Int, r = r2 - (b.pd.length : Int) := ⟨_, rfl⟩
  obtain ⟨r4, er4⟩ : ∃ r : Int, r = r3 - (b.fo.length : Int) := ⟨_, rfl⟩
  obtain ⟨r5, er5⟩ : ∃ r : Int, r = r4 - (b.ac.length : Int) := ⟨_, rfl⟩
  simp only [← er1, ← er2, ← er3, ← er4, ← er5] at K0 K1 K2 K3 K4 d1 d2 d3 d4 d5 ⊢
  clear er1 er2 er3 er4 er5 hs
  go_enter Try.func59, Try.ntmps59
  go_wp2_with (first
    | (go_at_call 113; (with_reducible refine (K0.out _).mono ?_); rintro e wn ⟨rfl, rfl⟩)
    | (go_at_call 113; (with_reducible refine (K1.out _).mono ?_); rintro e wn ⟨rfl, rfl⟩)
    | (go_at_call 113; (with_reducible refine (K2.out _).mono ?_); rintro e wn ⟨rfl, rfl⟩)
    | (go_at_call 125; (with_reducible refine (K3.out _).mono ?_); rintro e wn ⟨rfl, rfl⟩)
    | (go_at_call 125; (with_reducible refine (K4.out _).mono ?_); rintro e wn ⟨rfl, rfl⟩))
  go_ret
  exact ⟨rfl, B.out⟩
set_option maxRecDepth 100000 in
set_option maxHeartbeats 8000000 in
theorem szBetting_no (L : At5) (b : Bt) (q0 : Int) (w : World) (h0 : 0 ≤ q0) (h1 : q0 ≤ 2000000) (hm : b.st.length ≤ maxLen ∧ b.bt.length ≤ maxLen ∧ b.pd.length ≤ maxLen ∧ b.fo.length ≤ maxLen ∧ b.ac.length ≤ maxLen) (hs : q0 - (b.st.length : Int) - (b.bt.length : Int) - (b.pd.length : Int) - (b.fo.length : Int) - (b.ac.length : Int) < 0) :
    Calls Try.prog 59 #[bV L b, .int .i64 q0] w (Fresh (.int .i64 (-1)) w) := by
  unfold maxLen at hm
  have N0 := Lib.hid (blk_new w 70 (btL L b))
  have B := Lib.hid (bl_alloc (bl_refl w) (.cells (btL L b).toArray 70))
  have N1 := N0.out
  obtain ⟨z0, _⟩ := N1.cell 0 _ rfl
  obtain ⟨z1, _⟩ := N1.cell 1 _ rfl
  obtain ⟨z2, _⟩ := N1.cell 2 _ rfl
  obtain ⟨z3, _⟩ := N1.cell 3 _ rfl
  obtain ⟨z4, _⟩ := N1.cell 4 _ rfl
  clear N1
  unfold bV
  by_cases c0 : q0 - (b.st.length : Int) < 0
  · have K0 := Lib.hid (fun W => szInts_any L.a1 b.st.length L.c1 (q0) W (by omega) (by omega) (by omega))
    rw [if_pos (by omega)] at K0
    clear c0 hs hm
    go_enter Try.func59, Try.ntmps59
    go_wp2_with (first
        | (go_at_call 113; (with_reducible refine (K0.out _).mono ?_); rintro e wn ⟨rfl, rfl⟩))
    go_ret
    exact ⟨rfl, B.out⟩
  by_cases c1 : q0 - (b.st.length : Int) - (b.bt.length : Int) < 0
  · have K0 := Lib.hid (fun W => szInts_any L.a1 b.st.length L.c1 (q0) W (by omega) (by omega) (by omega))
    rw [if_neg (by omega)] at K0
    have K1 := Lib.hid (fun W => szInts_any L.a2 b.bt.length L.c2 (q0 - (b.st.length : Int)) W (by omega) (by omega) (by omega))
    rw [if_pos (by omega)] at K1
    have d1 : decide (q0 - (b.st.length : Int) < 0) = false := decide_eq_false (by omega)
    obtain ⟨r1, er1⟩ : ∃ r : Int, r = q0 - (b.st.length : Int) := ⟨_, rfl⟩
    simp only [← er1] at K0 K1 d1
    clear er1 c0 c1 hs hm
    go_enter Try.func59, Try.ntmps59
    go_wp2_with (first
        | (go_at_call 113; (with_reducible refine (K0.out _).mono ?_); rintro e wn ⟨rfl, rfl⟩)
        | (go_at_call 113; (with_reducible refine (K1.out _).mono ?_); rintro e wn ⟨rfl, rfl⟩))
    go_ret
    exact ⟨rfl, B.out⟩
  by_cases c2 : q0 - (b.st.length : Int) - (b.bt.length : Int) - (b.pd.length : Int) < 0
  · have K0 := Lib.hid (fun W => szInts_any L.a1 b.st.length L.c1 (q0) W (by omega) (by omega) (by omega))
    rw [if_neg (by omega)] at K0
    have K1 := Lib.hid (fun W => szInts_any L.a2 b.bt.length L.c2 (q0 - (b.st.length : Int)) W (by omega) (by omega) (by omega))
    rw [if_neg (by omega)] at K1
    have K2 := Lib.hid (fun W => szInts_any L.a3 b.pd.length L.c3 (q0 - (b.st.length : Int) - (b.bt.length : Int)) W (by omega) (by omega) (by omega))
    rw [if_pos (by omega)] at K2
    have d1 : decide (q0 - (b.st.length : Int) < 0) = false := decide_eq_false (by omega)
    have d2 : decide (q0 - (b.st.length : Int) - (b.bt.length : Int) < 0) = false := decide_eq_false (by omega)
    obtain ⟨r1, er1⟩ : ∃ r : Int, r = q0 - (b.st.length : Int) := ⟨_, rfl⟩
    obtain ⟨r2, er2⟩ : ∃ r : Int, r = r1 - (b.bt.length : Int) := ⟨_, rfl⟩
    simp only [← er1, ← er2] at K0 K1 K2 d1 d2
    clear er1 er2 c0 c1 c2 hs hm
    go_enter Try.func59, Try.ntmps59
    go_wp2_with (first
        | (go_at_call 113; (with_reducible refine (K0.out _).mono ?_); rintro e wn ⟨rfl, rfl⟩)
        | (go_at_call 113; (with_reducible refine (K1.out _).mono ?_); rintro e wn ⟨rfl, rfl⟩)
        | (go_at_call 113; (with_reducible refine (K2.out _).mono ?_); rintro e wn ⟨rfl, rfl⟩))
    go_ret
    exact ⟨rfl, B.out⟩
  by_cases c3 : q0 - (b.st.length : Int) - (b.bt.length : Int) - (b.pd.length : Int) - (b.fo.length : Int) < 0
  · have K0 := Lib.hid (fun W => szInts_any L.a1 b.st.length L.c1 (q0) W (by omega) (by omega) (by omega))
    rw [if_neg (by omega)] at K0
    have K1 := Lib.hid (fun W => szInts_any L.a2 b.bt.length L.c2 (q0 - (b.st.length : Int)) W (by omega) (by omega) (by omega))
    rw [if_neg (by omega)] at K1
    have K2 := Lib.hid (fun W => szInts_any L.a3 b.pd.length L.c3 (q0 - (b.st.length : Int) - (b.bt.length : Int)) W (by omega) (by omega) (by omega))
    rw [if_neg (by omega)] at K2
    have K3 := Lib.hid (fun W => szBools_any L.a4 b.fo.length L.c4 (q0 - (b.st.length : Int) - (b.bt.length : Int) - (b.pd.length : Int)) W (by omega) (by omega) (by omega))
    rw [if_pos (by omega)] at K3
    have d1 : decide (q0 - (b.st.length : Int) < 0) = false := decide_eq_false (by omega)
    have d2 : decide (q0 - (b.st.length : Int) - (b.bt.length : Int) < 0) = false := decide_eq_false (by omega)
    have d3 : decide (q0 - (b.st.length : Int) - (b.bt.length : Int) - (b.pd.length : Int) < 0) = false := decide_eq_false (by omega)
    obtain ⟨r1, er1⟩ : ∃ r : Int, r = q0 - (b.st.length : Int) := ⟨_, rfl⟩
    obtain ⟨r2, er2⟩ : ∃ r : Int, r = r1 - (b.bt.length : Int) := ⟨_, rfl⟩
    obtain ⟨r3, er3⟩ : ∃ r : Int, r = r2 - (b.pd.length : Int) := ⟨_, rfl⟩
    simp only [← er1, ← er2, ← er3] at K0 K1 K2 K3 d1 d2 d3
    clear er1 er2 er3 c0 c1 c2 c3 hs hm
    go_enter Try.func59, Try.ntmps59
    go_wp2_with (first
        | (go_at_call 113; (with_reducible refine (K0.out _).mono ?_); rintro e wn ⟨rfl, rfl⟩)
        | (go_at_call 113; (with_reducible refine (K1.out _).mono ?_); rintro e wn ⟨rfl, rfl⟩)
        | (go_at_call 113; (with_reducible refine (K2.out _).mono ?_); rintro e wn ⟨rfl, rfl⟩)
        | (go_at_call 125; (with_reducible refine (K3.out _).mono ?_); rintro e wn ⟨rfl, rfl⟩))
    go_ret
    exact ⟨rfl, B.out⟩
  by_cases c4 : q0 - (b.st.length : Int) - (b.bt.length : Int) - (b.pd.length : Int) - (b.fo.length : Int) - (b.ac.length : Int) < 0
  · have K0 := Lib.hid (fun W => szInts_any L.a1 b.st.length L.c1 (q0) W (by omega) (by omega) (by omega))
    rw [if_neg (by omega)] at K0
    have K1 := Lib.hid (fun W => szInts_any L.a2 b.bt.length L.c2 (q0 - (b.st.length : Int)) W (by omega) (by omega) (by omega))
    rw [if_neg (by omega)] at K1
    have K2 := Lib.hid (fun W => szInts_any L.a3 b.pd.length L.c3 (q0 - (b.st.length : Int) - (b.bt.length : Int)) W (by omega) (by omega) (by omega))
    rw [if_neg (by omega)] at K2
    have K3 := Lib.hid (fun W => szBools_any L.a4 b.fo.length L.c4 (q0 - (b.st.length : Int) - (b.bt.length : Int) - (b.pd.length : Int)) W (by omega) (by omega) (by omega))
    rw [if_neg (by omega)] at K3
    have K4 := Lib.hid (fun W => szBools_any L.a5 b.ac.length L.c5 (q0 - (b.st.length : Int) - (b.bt.length : Int) - (b.pd.length : Int) - (b.fo.length : Int)) W (by omega) (by omega) (by omega))
    rw [if_pos (by omega)] at K4
    have d1 : decide (q0 - (b.st.length : Int) < 0) = false := decide_eq_false (by omega)
    have d2 : decide (q0 - (b.st.length : Int) - (b.bt.length : Int) < 0) = false := decide_eq_false (by omega)
    have d3 : decide (q0 - (b.st.length : Int) - (b.bt.length : Int) - (b.pd.length : Int) < 0) = false := decide_eq_false (by omega)
    have d4 : decide (q0 - (b.st.length : Int) - (b.bt.length : Int) - (b.pd.length : Int) - (b.fo.length : Int) < 0) = false := decide_eq_false (by omega)
    obtain ⟨r1, er1⟩ : ∃ r : Int, r = q0 - (b.st.length : Int) := ⟨_, rfl⟩
    obtain ⟨r2, er2⟩ : ∃ r : Int, r = r1 - (b.bt.length : Int) := ⟨_, rfl⟩
    obtain ⟨r3, er3⟩ : ∃ r : Int, r = r2 - (b.pd.length : Int) := ⟨_, rfl⟩
    obtain ⟨r4, er4⟩ : ∃ r : Int, r = r3 - (b.fo.length : Int) := ⟨_, rfl⟩
    simp only [← er1, ← er2, ← er3, ← er4] at K0 K1 K2 K3 K4 d1 d2 d3 d4
    clear er1 er2 er3 er4 c0 c1 c2 c3 c4 hs hm
    go_enter Try.func59, Try.ntmps59
    go_wp2_with (first
        | (go_at_call 113; (with_reducible refine (K0.out _).mono ?_); rintro e wn ⟨rfl, rfl⟩)
        | (go_at_call 113; (with_reducible refine (K1.out _).mono ?_); rintro e wn ⟨rfl, rfl⟩)
        | (go_at_call 113; (with_reducible refine (K2.out _).mono ?_); rintro e wn ⟨rfl, rfl⟩)
        | (go_at_call 125; (with_reducible refine (K3.out _).mono ?_); rintro e wn ⟨rfl, rfl⟩)
        | (go_at_call 125; (with_reducible refine (K4.out _).mono ?_); rintro e wn ⟨rfl, rfl⟩))
    go_ret
    exact ⟨rfl, B.out⟩
  · exact absurd hs c4
set_option maxRecDepth 100000 in
set_option maxHeartbeats 4000000 in
theorem eqBetting_same (L M : At5) (b : Bt) (w : World) (hr : Rd5 w L b) (hq : Rd5 w M b) (m : Sm b) :
    Calls Try.prog 54 #[bV L b, bV M b] w (Fresh (.bool true) w) := by
  have K0 := Lib.hid (fun (W : World) (h : Below w.heap.size w W) => eqInts_same L.a1 M.a1 L.c1 M.c1 b.st W (hr.r1.below h) (hq.r1.below h) (by have := m.m1; omega))
  have K1 := Lib.hid (fun (W : World) (h : Below w.heap.size w W) => eqInts_same L.a2 M.a2 L.c2 M.c2 b.bt W (hr.r2.below h) (hq.r2.below h) (by have := m.m2; omega))
  have K2 := Lib.hid (fun (W : World) (h : Below w.heap.size w W) => eqInts_same L.a3 M.a3 L.c3 M.c3 b.pd W (hr.r3.below h) (hq.r3.below h) (by have := m.m3; omega))
  have K3 := Lib.hid (fun (W : World) (h : Below w.heap.size w W) => eqBools_same L.a4 M.a4 L.c4 M.c4 b.fo W (hr.r4.below h) (hq.r4.below h) (by have := m.m4; omega))
  have K4 := Lib.hid (fun (W : World) (h : Below w.heap.size w W) => eqBools_same L.a5 M.a5 L.c5 M.c5 b.ac W (hr.r5.below h) (hq.r5.below h) (by have := m.m5; omega))
  have N0 := Lib.hid ((blk_new w 27 (btL L b)).below (bl_alloc (bl_refl _) (.cells (btL M b).toArray 27)))
  have n1 := blk_new (w.alloc (.cells (btL L b).toArray 27)) 27 (btL M b)
  rw [World.size_alloc] at n1
  have N1 := Lib.hid n1
  have B := Lib.hid (bl_alloc (bl_alloc (bl_refl w) (.cells (btL L b).toArray 27)) (.cells (btL M b).toArray 27))
  have m0 := N0.out
  obtain ⟨q0_0, _⟩ := m0.cell 0 _ rfl
  obtain ⟨q0_1, _⟩ := m0.cell 1 _ rfl
  obtain ⟨q0_2, _⟩ := m0.cell 2 _ rfl
  obtain ⟨q0_3, _⟩ := m0.cell 3 _ rfl
  obtain ⟨q0_4, _⟩ := m0.cell 4 _ rfl
  obtain ⟨q0_5, _⟩ := m0.cell 5 _ rfl
  obtain ⟨q0_6, _⟩ := m0.cell 6 _ rfl
  obtain ⟨q0_7, _⟩ := m0.cell 7 _ rfl
  obtain ⟨q0_8, _⟩ := m0.cell 8 _ rfl
  obtain ⟨q1_0, _⟩ := n1.cell 0 _ rfl
  obtain ⟨q1_1, _⟩ := n1.cell 1 _ rfl
  obtain ⟨q1_2, _⟩ := n1.cell 2 _ rfl
  obtain ⟨q1_3, _⟩ := n1.cell 3 _ rfl
  obtain ⟨q1_4, _⟩ := n1.cell 4 _ rfl
  obtain ⟨q1_5, _⟩ := n1.cell 5 _ rfl
  obtain ⟨q1_6, _⟩ := n1.cell 6 _ rfl
  obtain ⟨q1_7, _⟩ := n1.cell 7 _ rfl
  obtain ⟨q1_8, _⟩ := n1.cell 8 _ rfl
  clear n1 m0 hr hq m
  unfold bV
  go_enter Try.func54, Try.ntmps54
  go_wp2_with (first
    | (go_at_call 119; (with_reducible refine (K0.out _ B.out).mono ?_); rintro e wn ⟨rfl, hb⟩; have N0a := Lib.hid (N0.out.below hb); have N1a := Lib.hid (N1.out.below hb); have Ba := Lib.hid (bl_trans B.out hb); clear N0 N1 B hb; have N0 := N0a; have N1 := N1a; have B := Ba; clear N0a N1a Ba; obtain ⟨q0_0, _⟩ := N0.out.cell 0 _ rfl; obtain ⟨q1_0, _⟩ := N1.out.cell 0 _ rfl; obtain ⟨q0_1, _⟩ := N0.out.cell 1 _ rfl; obtain ⟨q1_1, _⟩ := N1.out.cell 1 _ rfl; obtain ⟨q0_2, _⟩ := N0.out.cell 2 _ rfl; obtain ⟨q1_2, _⟩ := N1.out.cell 2 _ rfl; obtain ⟨q0_3, _⟩ := N0.out.cell 3 _ rfl; obtain ⟨q1_3, _⟩ := N1.out.cell 3 _ rfl; obtain ⟨q0_4, _⟩ := N0.out.cell 4 _ rfl; obtain ⟨q1_4, _⟩ := N1.out.cell 4 _ rfl; obtain ⟨q0_5, _⟩ := N0.out.cell 5 _ rfl; obtain ⟨q1_5, _⟩ := N1.out.cell 5 _ rfl; obtain ⟨q0_6, _⟩ := N0.out.cell 6 _ rfl; obtain ⟨q1_6, _⟩ := N1.out.cell 6 _ rfl; obtain ⟨q0_7, _⟩ := N0.out.cell 7 _ rfl; obtain ⟨q1_7, _⟩ := N1.out.cell 7 _ rfl; obtain ⟨q0_8, _⟩ := N0.out.cell 8 _ rfl; obtain ⟨q1_8, _⟩ := N1.out.cell 8 _ rfl)
    | (go_at_call 119; (with_reducible refine (K1.out _ B.out).mono ?_); rintro e wn ⟨rfl, hb⟩; have N0a := Lib.hid (N0.out.below hb); have N1a := Lib.hid (N1.out.below hb); have Ba := Lib.hid (bl_trans B.out hb); clear N0 N1 B hb; have N0 := N0a; have N1 := N1a; have B := Ba; clear N0a N1a Ba; obtain ⟨q0_0, _⟩ := N0.out.cell 0 _ rfl; obtain ⟨q1_0, _⟩ := N1.out.cell 0 _ rfl; obtain ⟨q0_1, _⟩ := N0.out.cell 1 _ rfl; obtain ⟨q1_1, _⟩ := N1.out.cell 1 _ rfl; obtain ⟨q0_2, _⟩ := N0.out.cell 2 _ rfl; obtain ⟨q1_2, _⟩ := N1.out.cell 2 _ rfl; obtain ⟨q0_3, _⟩ := N0.out.cell 3 _ rfl; obtain ⟨q1_3, _⟩ := N1.out.cell 3 _ rfl; obtain ⟨q0_4, _⟩ := N0.out.cell 4 _ rfl; obtain ⟨q1_4, _⟩ := N1.out.cell 4 _ rfl; obtain ⟨q0_5, _⟩ := N0.out.cell 5 _ rfl; obtain ⟨q1_5, _⟩ := N1.out.cell 5 _ rfl; obtain ⟨q0_6, _⟩ := N0.out.cell 6 _ rfl; obtain ⟨q1_6, _⟩ := N1.out.cell 6 _ rfl; obtain ⟨q0_7, _⟩ := N0.out.cell 7 _ rfl; obtain ⟨q1_7, _⟩ := N1.out.cell 7 _ rfl; obtain ⟨q0_8, _⟩ := N0.out.cell 8 _ rfl; obtain ⟨q1_8, _⟩ := N1.out.cell 8 _ rfl)
    | (go_at_call 119; (with_reducible refine (K2.out _ B.out).mono ?_); rintro e wn ⟨rfl, hb⟩; have N0a := Lib.hid (N0.out.below hb); have N1a := Lib.hid (N1.out.below hb); have Ba := Lib.hid (bl_trans B.out hb); clear N0 N1 B hb; have N0 := N0a; have N1 := N1a; have B := Ba; clear N0a N1a Ba; obtain ⟨q0_0, _⟩ := N0.out.cell 0 _ rfl; obtain ⟨q1_0, _⟩ := N1.out.cell 0 _ rfl; obtain ⟨q0_1, _⟩ := N0.out.cell 1 _ rfl; obtain ⟨q1_1, _⟩ := N1.out.cell 1 _ rfl; obtain ⟨q0_2, _⟩ := N0.out.cell 2 _ rfl; obtain ⟨q1_2, _⟩ := N1.out.cell 2 _ rfl; obtain ⟨q0_3, _⟩ := N0.out.cell 3 _ rfl; obtain ⟨q1_3, _⟩ := N1.out.cell 3 _ rfl; obtain ⟨q0_4, _⟩ := N0.out.cell 4 _ rfl; obtain ⟨q1_4, _⟩ := N1.out.cell 4 _ rfl; obtain ⟨q0_5, _⟩ := N0.out.cell 5 _ rfl; obtain ⟨q1_5, _⟩ := N1.out.cell 5 _ rfl; obtain ⟨q0_6, _⟩ := N0.out.cell 6 _ rfl; obtain ⟨q1_6, _⟩ := N1.out.cell 6 _ rfl; obtain ⟨q0_7, _⟩ := N0.out.cell 7 _ rfl; obtain ⟨q1_7, _⟩ := N1.out.cell 7 _ rfl; obtain ⟨q0_8, _⟩ := N0.out.cell 8 _ rfl; obtain ⟨q1_8, _⟩ := N1.out.cell 8 _ rfl)
    | (go_at_call 120; (with_reducible refine (K3.out _ B.out).mono ?_); rintro e wn ⟨rfl, hb⟩; have N0a := Lib.hid (N0.out.below hb); have N1a := Lib.hid (N1.out.below hb); have Ba := Lib.hid (bl_trans B.out hb); clear N0 N1 B hb; have N0 := N0a; have N1 := N1a; have B := Ba; clear N0a N1a Ba; obtain ⟨q0_0, _⟩ := N0.out.cell 0 _ rfl; obtain ⟨q1_0, _⟩ := N1.out.cell 0 _ rfl; obtain ⟨q0_1, _⟩ := N0.out.cell 1 _ rfl; obtain ⟨q1_1, _⟩ := N1.out.cell 1 _ rfl; obtain ⟨q0_2, _⟩ := N0.out.cell 2 _ rfl; obtain ⟨q1_2, _⟩ := N1.out.cell 2 _ rfl; obtain ⟨q0_3, _⟩ := N0.out.cell 3 _ rfl; obtain ⟨q1_3, _⟩ := N1.out.cell 3 _ rfl; obtain ⟨q0_4, _⟩ := N0.out.cell 4 _ rfl; obtain ⟨q1_4, _⟩ := N1.out.cell 4 _ rfl; obtain ⟨q0_5, _⟩ := N0.out.cell 5 _ rfl; obtain ⟨q1_5, _⟩ := N1.out.cell 5 _ rfl; obtain ⟨q0_6, _⟩ := N0.out.cell 6 _ rfl; obtain ⟨q1_6, _⟩ := N1.out.cell 6 _ rfl; obtain ⟨q0_7, _⟩ := N0.out.cell 7 _ rfl; obtain ⟨q1_7, _⟩ := N1.out.cell 7 _ rfl; obtain ⟨q0_8, _⟩ := N0.out.cell 8 _ rfl; obtain ⟨q1_8, _⟩ := N1.out.cell 8 _ rfl)
    | (go_at_call 120; (with_reducible refine (K4.out _ B.out).mono ?_); rintro e wn ⟨rfl, hb⟩; have N0a := Lib.hid (N0.out.below hb); have N1a := Lib.hid (N1.out.below hb); have Ba := Lib.hid (bl_trans B.out hb); clear N0 N1 B hb; have N0 := N0a; have N1 := N1a; have B := Ba; clear N0a N1a Ba; obtain ⟨q0_0, _⟩ := N0.out.cell 0 _ rfl; obtain ⟨q1_0, _⟩ := N1.out.cell 0 _ rfl; obtain ⟨q0_1, _⟩ := N0.out.cell 1 _ rfl; obtain ⟨q1_1, _⟩ := N1.out.cell 1 _ rfl; obtain ⟨q0_2, _⟩ := N0.out.cell 2 _ rfl; obtain ⟨q1_2, _⟩ := N1.out.cell 2 _ rfl; obtain ⟨q0_3, _⟩ := N0.out.cell 3 _ rfl; obtain ⟨q1_3, _⟩ := N1.out.cell 3 _ rfl; obtain ⟨q0_4, _⟩ := N0.out.cell 4 _ rfl; obtain ⟨q1_4, _⟩ := N1.out.cell 4 _ rfl; obtain ⟨q0_5, _⟩ := N0.out.cell 5 _ rfl; obtain ⟨q1_5, _⟩ := N1.out.cell 5 _ rfl; obtain ⟨q0_6, _⟩ := N0.out.cell 6 _ rfl; obtain ⟨q1_6, _⟩ := N1.out.cell 6 _ rfl; obtain ⟨q0_7, _⟩ := N0.out.cell 7 _ rfl; obtain ⟨q1_7, _⟩ := N1.out.cell 7 _ rfl; obtain ⟨q0_8, _⟩ := N0.out.cell 8 _ rfl; obtain ⟨q1_8, _⟩ := N1.out.cell 8 _ rfl))
  exact bodyPost_ret (v := .bool true) (by simp [results, Try.results54, go_sem]) rfl ⟨rfl, B.out⟩
end Go.Proofs.Ytnllndcajdofjaa
