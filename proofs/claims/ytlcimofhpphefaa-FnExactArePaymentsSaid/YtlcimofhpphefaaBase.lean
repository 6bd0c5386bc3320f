/-
  Put together: Pure, Frame, In, Bits, CardSet, IsCard, List, DeckPure, Row, CntL, RankCnt, SetOf, SpecAre, Blk, RowBlk, Sized, Rank
-/
import Derived.Below
import Derived.Lib.Hide
import Derived.Test.YtlcimofhpphefaaRows
import Derived.WalkKit
import Derived.ProofKit
import Derived.OpenShut
import Derived.Deep.QuietTactic
import Derived.WalkLawsBesides
import Derived.Lib.TrailingZeros
import Derived.BigQuiet
import Derived.Lib.SmallJoins
import Derived.OwnWalk
import Derived.Laws.OwnMore
import Derived.Deep.AppendLies
import Derived.RegionTactic
import Derived.Outline
import Derived.Laws.BitsLemmas
import Derived.Laws.Bits64
import Derived.Deep.MidRow

/-! Plain facts on integers: the greatest common divisor. Nothing of the program is imported. -/
namespace Go.Proofs.Ytlcimofhpphefaa

theorem ret_int {k : IntKind} {a b : Int} (h : a = b) : Ending.returned (.int k a) = .returned (.int k b) := by rw [h]
/-- Two numbers as a result. -/
abbrev pairV (a b : Int) : Value := .tuple #[.int .i64 a, .int .i64 b]
theorem pair_eq {t : Int × Int} {a b : Int} (h : t = (a, b)) : pairV a b = pairV t.1 t.2 := by rw [h]

/-- A text as a result. -/
abbrev strV (l : List UInt8) : Value := .string ⟨l.toArray⟩
/-- The greatest common divisor of two integers, as an integer. -/
def gcdI (a b : Int) : Int := (Nat.gcd a.toNat b.toNat : Nat)
theorem gcdI_zero (a : Int) (h : 0 ≤ a) : gcdI a 0 = a := by
  unfold gcdI; simp; omega
theorem gcdI_step (a b : Int) (ha : 0 ≤ a) (hb : 0 < b) : gcdI b (a % b) = gcdI a b := by
  unfold gcdI
  have e : (a % b).toNat = a.toNat % b.toNat := by
    have := Int.toNat_emod ha (Int.le_of_lt hb)
    exact this
  rw [e, Nat.gcd_comm b.toNat, ← Nat.gcd_rec, Nat.gcd_comm]
theorem gcdI_nonneg (a b : Int) : 0 ≤ gcdI a b := by unfold gcdI; omega
theorem gcdI_pos (a b : Int) (hb : 0 < b) : 0 < gcdI a b := by
  unfold gcdI
  have : 0 < Nat.gcd a.toNat b.toNat := Nat.gcd_pos_of_pos_right _ (by omega)
  omega
theorem gcdI_le (a b : Int) (hb : 0 < b) : gcdI a b ≤ b := by
  unfold gcdI
  have : Nat.gcd a.toNat b.toNat ≤ b.toNat := Nat.gcd_le_right _ (by omega)
  omega
def absI (n : Int) : Int := if n < 0 then -n else n
theorem absI_neg (n : Int) (h : n < 0) : absI n = -n := by unfold absI; rw [if_pos h]
theorem absI_pos (n : Int) (h : ¬ n < 0) : absI n = n := by unfold absI; rw [if_neg h]
theorem absI_bd (n : Int) : 0 ≤ absI n ∧ n ≤ absI n ∧ -n ≤ absI n ∧ (absI n = n ∨ absI n = -n) := by unfold absI; split <;> omega

/-- Both parts are within their limits. -/
def inR (n d : Int) : Prop := -1000000000 ≤ n ∧ n ≤ 1000000000 ∧ 1 ≤ d ∧ d ≤ 1000000000
/-- The ratio is valid. -/
def isR (n d : Int) : Bool := decide (-1000000000 ≤ n ∧ n ≤ 1000000000 ∧ 1 ≤ d ∧ d ≤ 1000000000 ∧ gcdI (absI n) d = 1)
theorem isR_lo (n d : Int) (h : n < -1000000000) : isR n d = false := by unfold isR; simp; omega
theorem isR_hi (n d : Int) (h : 1000000000 < n) : isR n d = false := by unfold isR; simp; omega
theorem isR_dlo (n d : Int) (h : d < 1) : isR n d = false := by unfold isR; simp; omega
theorem isR_dhi (n d : Int) (h : 1000000000 < d) : isR n d = false := by unfold isR; simp; omega
theorem isR_in (n d : Int) (h1 : -1000000000 ≤ n) (h2 : n ≤ 1000000000) (h3 : 1 ≤ d) (h4 : d ≤ 1000000000) : isR n d = (gcdI (absI n) d == 1) := by
  unfold isR; simp [h1, h2, h3, h4]; rfl

/-- A number lies in a range. -/
def inB (n lo hi : Int) : Bool := decide (lo ≤ n ∧ n ≤ hi)
theorem inB_yes (n lo hi : Int) (h : lo ≤ n) (h' : n ≤ hi) : inB n lo hi = true := by unfold inB; simp [h, h']
theorem inB_lo (n lo hi : Int) (h : n < lo) : inB n lo hi = false := by unfold inB; simp; omega
theorem inB_hi (n lo hi : Int) (h : hi < n) : inB n lo hi = false := by unfold inB; simp; omega

/-- A number lies outside a range. -/
def outB (n lo hi : Int) : Prop := n < lo ∨ hi < n
theorem outB_inB (n lo hi : Int) (h : outB n lo hi) : inB n lo hi = false := by
  unfold outB at h; unfold inB; simp; omega
theorem isR_n (n d : Int) (h : outB n (-1000000000) 1000000000) : isR n d = false := by
  unfold outB at h; unfold isR; simp only [decide_eq_false_iff_not]; omega
theorem isR_d (n d : Int) (h : outB d 1 1000000000) : isR n d = false := by
  unfold outB at h; unfold isR; simp only [decide_eq_false_iff_not]; omega
theorem in_or_out (n lo hi : Int) : (lo ≤ n ∧ n ≤ hi) ∨ outB n lo hi := by unfold outB; omega


/-- The parts of the reduced quotient, before they are held against their limits. -/
def ratN (n d : Int) : Int := n.tdiv (gcdI (absI n) d)
def ratD (n d : Int) : Int := d / gcdI (absI n) d
theorem gcd_facts (n d : Int) (hd : 0 < d) : 0 < gcdI (absI n) d ∧ gcdI (absI n) d ∣ n ∧ gcdI (absI n) d ∣ d := by
  refine ⟨gcdI_pos _ _ hd, ?_, ?_⟩
  · have h : (gcdI (absI n) d) ∣ absI n := by
      have : ((Nat.gcd (absI n).toNat d.toNat : Nat) : Int) ∣ (((absI n).toNat : Nat) : Int) := Int.ofNat_dvd.2 (Nat.gcd_dvd_left _ _)
      have e : (((absI n).toNat : Nat) : Int) = absI n := by have := absI_bd n; omega
      rw [e] at this; exact this
    by_cases hn : n < 0
    · rw [absI_neg n hn] at h ⊢; exact (Int.dvd_neg).1 h
    · rw [absI_pos n hn] at h ⊢; exact h
  · have : ((Nat.gcd (absI n).toNat d.toNat : Nat) : Int) ∣ ((d.toNat : Nat) : Int) := Int.ofNat_dvd.2 (Nat.gcd_dvd_right _ _)
    have e : ((d.toNat : Nat) : Int) = d := by omega
    rw [e] at this; exact this
theorem ratN_mul (n d : Int) (hd : 0 < d) : ratN n d * gcdI (absI n) d = n := Int.tdiv_mul_cancel (gcd_facts n d hd).2.1
theorem ratD_mul (n d : Int) (hd : 0 < d) : ratD n d * gcdI (absI n) d = d := Int.ediv_mul_cancel (gcd_facts n d hd).2.2
theorem ratD_pos (n d : Int) (hd : 0 < d) : 0 < ratD n d := by
  have h := ratD_mul n d hd
  have g := (gcd_facts n d hd).1
  by_cases hz : 0 < ratD n d
  · exact hz
  · exfalso
    have : ratD n d * gcdI (absI n) d ≤ 0 := Int.mul_nonpos_of_nonpos_of_nonneg (by omega) (by omega)
    omega
theorem absI_mul (a g : Int) (hg : 0 < g) : absI (a * g) = absI a * g := by
  by_cases ha : a < 0
  · have : a * g < 0 := Int.mul_neg_of_neg_of_pos ha hg
    rw [absI_neg _ ha, absI_neg _ this, Int.neg_mul]
  · have : 0 ≤ a * g := Int.mul_nonneg (by omega) (by omega)
    rw [absI_pos _ ha, absI_pos _ (by omega)]
theorem gcdI_mul (a b g : Int) (ha : 0 ≤ a) (hb : 0 ≤ b) (hg : 0 < g) : gcdI (a * g) (b * g) = gcdI a b * g := by
  unfold gcdI
  obtain ⟨a', rfl⟩ := Int.eq_ofNat_of_zero_le ha
  obtain ⟨b', rfl⟩ := Int.eq_ofNat_of_zero_le hb
  obtain ⟨g', rfl⟩ := Int.eq_ofNat_of_zero_le (Int.le_of_lt hg)
  have e1 : ((a' : Int) * (g' : Int)).toNat = a' * g' := by rw [← Int.natCast_mul]; rfl
  have e2 : ((b' : Int) * (g' : Int)).toNat = b' * g' := by rw [← Int.natCast_mul]; rfl
  rw [e1, e2, Nat.gcd_mul_right, Int.natCast_mul]; rfl
/-- The parts of the reduced quotient have no common divisor. -/
theorem rat_gcd (n d : Int) (hd : 0 < d) : gcdI (absI (ratN n d)) (ratD n d) = 1 := by
  have g := (gcd_facts n d hd).1
  have h1 := ratN_mul n d hd
  have h2 := ratD_mul n d hd
  have h3 := ratD_pos n d hd
  have h4 := gcdI_mul (absI (ratN n d)) (ratD n d) (gcdI (absI n) d) (absI_bd _).1 (by omega) g
  rw [h2, ← absI_mul _ _ g, h1] at h4
  have h5 : 1 * gcdI (absI n) d = gcdI (absI (ratN n d)) (ratD n d) * gcdI (absI n) d := by rw [Int.one_mul]; exact h4
  exact (Int.eq_of_mul_eq_mul_right (by omega) h5).symm
/-- The reduced quotient is within the limits. -/
def ratOk (n d : Int) : Bool := isR (ratN n d) (ratD n d)
theorem ratOk_in (n d : Int) (hd : 0 < d) : ratOk n d = (inB (ratN n d) (-1000000000) 1000000000 && inB (ratD n d) 1 1000000000) := by
  unfold ratOk
  rcases in_or_out (ratN n d) (-1000000000) 1000000000 with ⟨h1, h2⟩ | h
  · rcases in_or_out (ratD n d) 1 1000000000 with ⟨h3, h4⟩ | h'
    · rw [isR_in _ _ h1 h2 h3 h4, rat_gcd n d hd, inB_yes _ _ _ h1 h2, inB_yes _ _ _ h3 h4]; rfl
    · rw [isR_d _ _ h', outB_inB _ _ _ h', Bool.and_false]
  · rw [isR_n _ _ h, outB_inB _ _ _ h, Bool.false_and]
/-- The ratio of two integers: numerator, denominator, code. -/
def rat (n d : Int) : Int × Int × Int := if ratOk n d = true then (ratN n d, ratD n d, 0) else (0, 0, 3)
theorem rat_yes (n d : Int) (h : ratOk n d = true) : rat n d = (ratN n d, ratD n d, 0) := by unfold rat; rw [if_pos h]
theorem rat_no (n d : Int) (h : ratOk n d = false) : rat n d = (0, 0, 3) := by unfold rat; rw [h]; rfl
theorem ratN_bd (n d : Int) (hd : 0 < d) (h : -4000000000000000000 ≤ n) (h' : n ≤ 4000000000000000000) : -4000000000000000000 ≤ ratN n d ∧ ratN n d ≤ 4000000000000000000 := by
  have g := (gcd_facts n d hd).1
  have h1 := ratN_mul n d hd
  generalize ratN n d = q at *
  generalize gcdI (absI n) d = k at *
  constructor
  · by_cases hq : q < 0
    · have : q * k ≤ q * 1 := Int.mul_le_mul_of_nonpos_left (Int.le_of_lt hq) (by omega)
      omega
    · omega
  · by_cases hq : 0 < q
    · have : q * 1 ≤ q * k := Int.mul_le_mul_of_nonneg_left (by omega) (Int.le_of_lt hq)
      omega
    · omega
theorem ratD_bd (n d : Int) (hd : 0 < d) : ratD n d ≤ d := by
  have g := (gcd_facts n d hd).1
  have h1 := ratD_mul n d hd
  have h2 := ratD_pos n d hd
  have : ratD n d * 1 ≤ ratD n d * gcdI (absI n) d := Int.mul_le_mul_of_nonneg_left (by omega) (Int.le_of_lt h2)
  omega
theorem prod_bd (a b c d : Int) (ha : -c ≤ a) (ha' : a ≤ c) (hb : -d ≤ b) (hb' : b ≤ d) : -(c * d) ≤ a * b ∧ a * b ≤ c * d := by
  have k1 : 0 ≤ (c - a) * (d + b) := Int.mul_nonneg (by omega) (by omega)
  have k2 : 0 ≤ (c + a) * (d - b) := Int.mul_nonneg (by omega) (by omega)
  have k3 : 0 ≤ (c - a) * (d - b) := Int.mul_nonneg (by omega) (by omega)
  have k4 : 0 ≤ (c + a) * (d + b) := Int.mul_nonneg (by omega) (by omega)
  simp only [Int.sub_mul, Int.add_mul, Int.mul_sub, Int.mul_add] at k1 k2 k3 k4
  omega
end Go.Proofs.Ytlcimofhpphefaa

/-! The frame of a law's proof: a law that returns true and writes into nothing that was there leaves each argument as it read. -/
namespace Go.Proofs.Ytlcimofhpphefaa
open Go.ChangeShapes Go.WideShapes Go.ChangeAt Go.RowKit

theorem own : ownKnob Try.prog.godebug = none := by kernel_rfl
theorem laidOut : laidOutB Try.prog = true := by kernel_rfl

theorem trodAll_below {H : Type} {enc : TypeId × Value → H} {P : Program} (hl : laidOutB P = true) {W W' : World} (hb : Below W.heap.size W W') :
    ∀ (ts : List TypeId) (vs : List Value) (ds : List (DataW H)) (ps : List MemPlace), (∀ t ∈ ts, P.readableRec t = true ∧ t < P.types.size) →
      DataW.TrodAll enc P W 0 (fun _ => true) true ts vs ds ps → (∀ x ∈ ps, x.block < W.heap.size) →
      DataW.TrodAll enc P W' 0 (fun b => decide (b < W.heap.size)) true ts vs ds ps
  | [], [], [], _, _, h, _ => h
  | t :: ts, v :: vs, d :: ds, ps, hr, h, hlt => by
    obtain ⟨p, q, h0, h1, rfl⟩ := h
    have h2 := hr t (List.mem_cons_self ..)
    exact ⟨p, q, Below.trod hl h2.1 h2.2 h0 hb (fun x hx => hlt x (List.mem_append.2 (.inl hx))),
      trodAll_below hl hb ts vs ds q (fun t' ht => hr t' (List.mem_cons_of_mem _ ht)) h1 (fun x hx => hlt x (List.mem_append.2 (.inr hx))), rfl⟩
  | [], _ :: _, _, _, _, h, _ => by cases h
  | [], [], _ :: _, _, _, h, _ => by cases h
  | _ :: _, [], _, _, _, h, _ => by cases h
  | _ :: _, _ :: _, [], _, _, h, _ => by cases h

theorem trodAll_len {H : Type} {enc : TypeId × Value → H} {P : Program} {W : World} {b : Nat} {sp : Nat → Bool} {hd : Bool} :
    ∀ (ts : List TypeId) (vs : List Value) (ds : List (DataW H)) (ps : List MemPlace), DataW.TrodAll enc P W b sp hd ts vs ds ps → ds.length = ts.length
  | [], [], [], _, _ => rfl
  | t :: ts, v :: vs, d :: ds, ps, h => by
    obtain ⟨p, q, _, h1, _⟩ := h
    simp [trodAll_len ts vs ds q h1]
  | [], _ :: _, _, _, h => by cases h
  | [], [], _ :: _, _, h => by cases h
  | _ :: _, [], _, _, h => by cases h
  | _ :: _, _ :: _, [], _, h => by cases h

theorem bl_refl (w : World) : Below w.heap.size w w := Below.refl _ _
theorem bl_alloc {a w : World} (h : Below a.heap.size a w) (o : Obj) : Below a.heap.size a (w.alloc o) := h.alloc h.size o
theorem bl_drew {a w : World} (h : Below a.heap.size a w) : Below a.heap.size a w.drew := h.drew
theorem bl_drewN {a w : World} (h : Below a.heap.size a w) (n : Nat) : Below a.heap.size a (w.drewN n) := ⟨h.os, h.tape, h.output, h.size, h.block⟩
theorem bl_trans {a b c : World} (h : Below a.heap.size a b) (k : Below b.heap.size b c) : Below a.heap.size a c := h.trans (k.mono h.size)
theorem bl_set {a w : World} (h : Below a.heap.size a w) {p : Addr} (hp : a.heap.size ≤ p.block) (u : Value) : Below a.heap.size a (w.setCell p u) := h.setCell hp u
/-- What was there reads as it did, and is frozen as it was. -/
theorem bcell {W w1 : World} (hb : Below W.heap.size W w1) : (∀ b o, b < W.heap.size → w1.cell? ⟨b, o, none⟩ = W.cell? ⟨b, o, none⟩) ∧ (∀ b o, b < W.heap.size → w1.frozen? ⟨b, o, none⟩ = W.frozen? ⟨b, o, none⟩) :=
  ⟨fun b o h => hb.cell (p := ⟨b, o, none⟩) h, fun b o h => hb.frozen (p := ⟨b, o, none⟩) h⟩

theorem sz_new {w w1 : World} {o : Obj} (hb : Below (w.alloc o).heap.size (w.alloc o) w1) : w.heap.size < w1.heap.size := by
  have := hb.size
  simp at this
  omega
theorem sz_two {w w1 : World} {o o' : Obj} (hb : Below ((w.alloc o).alloc o').heap.size ((w.alloc o).alloc o') w1) : w.heap.size + 1 < w1.heap.size := by
  have := hb.size
  simp at this
  omega
theorem sz_old {k : Nat} {w w1 : World} (h : k < w.heap.size) (hb : Below w.heap.size w w1) : k < w1.heap.size := Nat.lt_of_lt_of_le h hb.size

set_option maxRecDepth 100000 in
/-- The whole of a law's row but for its walk. -/
theorem law_lifted {os : Os} (started : os.Started) {H : Type} {enc : TypeId × Value → H} {F : FuncId} {fn : Func} {s : ChangeSpec} {conds : List PathCond}
    (noInit : Try.checked.prog.inits.idxOf? F = none) (hfn : Try.checked.prog.funcs[F]? = some fn) (hres : fn.resultTypes = #[4]) (hvars : s.vars = [])
    (hspec : ∀ ds : List (DataW H), ds.length = fn.params.toList.length → s.fn H ds = { results := [.lit (.bool true)], args := ds })
    (hrec : ∀ t ∈ fn.params.toList, Try.prog.readableRec t = true ∧ t < Try.prog.types.size)
    (witness : ∃ (w : World) (tape : Tape) (i : Input), w.os = os ∧ (w.forCall tape i).Shaped Try.checked.prog ∧ i.vars = [] ∧ Input.okWide Try.checked.prog (w.forCall tape i) .any w.heap.size F i ∧
      s.pre6 enc Try.checked.prog fn conds false (w.forCall tape i).memory i.args ∧ ({} : Assume).holds Try.checked.prog (lone (Frame.enter Try.checked.prog F i.args .normal) [] (w.forCall tape i)))
    (walk : ∀ (W : World) (base : Nat) (args : Array Value) (ds : List (DataW H)) (ps : List MemPlace),
      (∀ (j : Nat) t v, fn.params[j]? = some t → args[j]? = some v → Value.okWide Try.prog W .any base t v) →
      DataW.TrodAll enc Try.prog W 0 (fun _ => true) true fn.params.toList args.toList ds ps →
      Calls Try.prog F args W fun e W' => e = .returned (.bool true) ∧ Below W.heap.size W W') :
    ReturnsInHanded {} Try.checked os F .any (s.pre6 enc Try.prog fn conds false) (s.post enc Try.prog fn false true false false) := by
  refine returnsInHanded_of_change (C := Try.checked) own started noInit hfn witness ?_
  intro W base args ds gs before hval hW _ _
  have hW' := hW
  obtain ⟨p, q, hA, hV, rfl, hfz, hnd⟩ := hW
  rw [hvars] at hV
  obtain ⟨rfl, rfl⟩ := trodVars_none hV
  have hlt : ∀ x ∈ p, x.block < W.heap.size := fun x hx => hW'.lt x (by simp [hx])
  have hl := trodAll_len _ _ _ _ hA
  refine (walk W base args ds p hval hA).mono fun e W' ⟨he, hb⟩ => ⟨.bool true, he, ?_⟩
  have e1 : s.fn H (ds ++ []) = { results := [.lit (.bool true)], args := ds } := by rw [List.append_nil]; exact hspec ds hl
  refine ⟨ds, [], p ++ [], [], p, [], hW', ?_, ?_, ?_, hb.frame _, fun h => by cases h⟩
  · rw [e1, hres]; exact trodAll_cons_mk (shut_bool Try.underlying4 _) trodAll_mk0
  · rw [e1]; exact trodAll_below laidOut hb _ _ _ _ hrec hA hlt
  · rw [e1, hvars]; rfl

end Go.Proofs.Ytlcimofhpphefaa

/-! What a call leaves that makes memory; the model's test of a range. -/
namespace Go.Proofs.Ytlcimofhpphefaa
open Go.RowKit

/-- What a call leaves that makes memory and writes into none that was there. -/
def Fresh (v : Value) (w : World) (e : Ending) (w' : World) : Prop := e = .returned v ∧ Below w.heap.size w w'
/-- What a call leaves that changes nothing. -/
def Same (v : Value) (w : World) (e : Ending) (w' : World) : Prop := e = .returned v ∧ w = w'
theorem same_pair {a b c d : Int} {w w' : World} (h : (a, b) = (c, d)) (hw : w = w') : Same (pairV c d) w (.returned (pairV a b)) w' := by
  injection h with h1 h2
  exact ⟨by rw [h1, h2], hw⟩

theorem below_drewN {B : Nat} {a w : World} (h : Below B a w) (n : Nat) : Below B a (w.drewN n) := ⟨h.os, h.tape, h.output, h.size, h.block⟩
theorem ret_bool {a b : Bool} (h : a = b) : Ending.returned (.bool a) = .returned (.bool b) := by rw [h]
theorem quiet_left {P : Program} {f : FuncId} {args : Array Value} {w : World} {n : Nat} {v : Value}
    (h : Calls P f args (w.drewN n) fun e w' => e = .returned v ∧ w.drewN n = w') : Calls P f args (w.drewN n) fun e w'' => e = .returned v ∧ ∃ m, w'' = w.drewN m :=
  h.mono fun _ _ ⟨he, hm⟩ => ⟨he, n, hm.symm⟩
theorem quiet_add {P : Program} {f : FuncId} {args : Array Value} {w : World} {a n : Nat} {v : Value}
    (h : Calls P f args (w.drewN (a + n)) fun e w' => e = .returned v ∧ ∃ m, w' = (w.drewN (a + n)).drewN m) :
    Calls P f args (w.drewN (a + n)) fun e w'' => e = .returned v ∧ ∃ m, w'' = w.drewN (a + m) :=
  h.mono fun _ _ ⟨he, m, hm⟩ => ⟨he, n + m, by rw [hm, World.drewN_drewN, Nat.add_assoc]⟩
theorem quiet_add_left {P : Program} {f : FuncId} {args : Array Value} {w : World} {a n : Nat} {v : Value}
    (h : Calls P f args (w.drewN (a + n)) fun e w' => e = .returned v ∧ w.drewN (a + n) = w') :
    Calls P f args (w.drewN (a + n)) fun e w'' => e = .returned v ∧ ∃ m, w'' = w.drewN (a + m) :=
  h.mono fun _ _ ⟨he, hm⟩ => ⟨he, n, hm.symm⟩

set_option maxHeartbeats 400000 in
theorem specIn_any (n lo hi : Int) (w : World) :
    Calls Try.prog 44 #[.int .i64 n, .int .i64 lo, .int .i64 hi] w fun e w' => e = .returned (.bool (inB n lo hi)) ∧ w = w' := by
  by_cases h1 : n < lo
  · have H := Lib.hid (inB_lo n lo hi h1)
    go_enter Try.func44, Try.ntmps44
    go_wp2
    go_ret
    exact ⟨ret_bool (by rw [H.out]), rfl⟩
  · by_cases h2 : hi < n
    · have H := Lib.hid (inB_hi n lo hi h2)
      go_enter Try.func44, Try.ntmps44
      go_wp2
      go_ret
      exact ⟨ret_bool (by rw [H.out]; exact decide_eq_false (by omega)), rfl⟩
    · have H := Lib.hid (inB_yes n lo hi (by omega) (by omega))
      go_enter Try.func44, Try.ntmps44
      go_wp2
      go_ret
      exact ⟨ret_bool (by rw [H.out]), rfl⟩

theorem specIn_yes (n lo hi : Int) (w : World) (h : lo ≤ n) (h' : n ≤ hi) :
    Calls Try.prog 44 #[.int .i64 n, .int .i64 lo, .int .i64 hi] w fun e w' => e = .returned (.bool true) ∧ w = w' :=
  (specIn_any n lo hi w).mono fun _ _ ⟨he, hw⟩ => ⟨by rw [he, inB_yes n lo hi h h'], hw⟩
theorem specIn_no (n lo hi : Int) (w : World) (h : outB n lo hi) :
    Calls Try.prog 44 #[.int .i64 n, .int .i64 lo, .int .i64 hi] w fun e w' => e = .returned (.bool false) ∧ w = w' :=
  (specIn_any n lo hi w).mono fun _ _ ⟨he, hw⟩ => ⟨by rw [he, outB_inB n lo hi h], hw⟩

end Go.Proofs.Ytlcimofhpphefaa

/-! Plain facts: numbers as sets of bits, and how many bits a number has. Nothing of the program is imported. -/
namespace Go.Proofs.Ytlcimofhpphefaa

/-! Numbers as sets of bits. -/
/-- How many of the lowest n bits are set. -/
def pop : Nat → Nat → Nat
  | 0, _ => 0
  | n + 1, x => x % 2 + pop n (x / 2)
theorem pop_le : ∀ (n x : Nat), pop n x ≤ n
  | 0, _ => Nat.le_refl _
  | n + 1, x => by have := pop_le n (x / 2); unfold pop; omega
theorem pop_zero : ∀ (n : Nat), pop n 0 = 0
  | 0 => rfl
  | n + 1 => by unfold pop; simp [pop_zero n]
/-- The set bits, in increasing order, counted from off on. -/
def bitsFrom : Nat → Nat → Nat → List Nat
  | 0, _, _ => []
  | n + 1, off, x => if x % 2 = 1 then off :: bitsFrom n (off + 1) (x / 2) else bitsFrom n (off + 1) (x / 2)
theorem bitsFrom_zero : ∀ (n off : Nat), bitsFrom n off 0 = []
  | 0, _ => rfl
  | n + 1, off => by unfold bitsFrom; simp [bitsFrom_zero n]
theorem bitsFrom_length : ∀ (n off x : Nat), (bitsFrom n off x).length = pop n x
  | 0, _, _ => rfl
  | n + 1, off, x => by
    unfold bitsFrom pop
    by_cases h : x % 2 = 1
    · rw [if_pos h, List.length_cons, bitsFrom_length n, h]; omega
    · rw [if_neg h, bitsFrom_length n]; omega
theorem bitsFrom_filter : ∀ (n off x : Nat), bitsFrom n off x = ((List.range n).filter (fun i => x.testBit i)).map (· + off)
  | 0, _, _ => rfl
  | n + 1, off, x => by
    unfold bitsFrom
    rw [bitsFrom_filter n, List.range_succ_eq_map, List.filter_cons, List.filter_map, Nat.testBit_zero]
    have e : ((fun i => x.testBit i) ∘ Nat.succ) = fun i => (x / 2).testBit i := by funext i; simp [Nat.testBit_succ]
    rw [e]
    by_cases h : x % 2 = 1
    · rw [if_pos h, if_pos (by simp [h])]
      simp [List.map_map, Function.comp_def, Nat.add_assoc, Nat.add_comm 1]
    · rw [if_neg h, if_neg (by simp [h])]
      simp [List.map_map, Function.comp_def, Nat.add_assoc, Nat.add_comm 1]
theorem div_and (x y : Nat) : (x &&& y) / 2 = x / 2 &&& y / 2 := Nat.and_div_two
theorem clear_low_odd (x : Nat) (h : x % 2 = 1) : x &&& (x - 1) = x - 1 := by
  apply Nat.eq_of_testBit_eq
  intro i
  rw [Nat.testBit_and]
  cases i with
  | zero => simp [Nat.testBit_zero, h]
  | succ i =>
    rw [Nat.testBit_succ, Nat.testBit_succ]
    have : (x - 1) / 2 = x / 2 := by omega
    rw [this, Bool.and_self]
theorem clear_low_even (x : Nat) (h : x % 2 = 0) : (x &&& (x - 1)) % 2 = 0 ∧ (x &&& (x - 1)) / 2 = x / 2 &&& (x / 2 - 1) := by
  constructor
  · have : (x &&& (x - 1)).testBit 0 = false := by rw [Nat.testBit_and, Nat.testBit_zero]; simp [h]
    rw [Nat.testBit_zero, decide_eq_false_iff_not] at this
    omega
  · rw [div_and]
    have : (x - 1) / 2 = x / 2 - 1 := by omega
    rw [this]
/-- The lowest bit first; what is left has it cleared. -/
theorem bitsFrom_step : ∀ (n off x : Nat), x ≠ 0 → x < 2 ^ n → bitsFrom n off x = (off + Lib.ctzFrom n x) :: bitsFrom n off (x &&& (x - 1))
  | 0, _, x, h, h' => by simp at h'; omega
  | n + 1, off, x, h, h' => by
    by_cases e : x % 2 = 1
    · unfold bitsFrom Lib.ctzFrom
      have c := clear_low_odd x e
      rw [if_pos e, if_pos e, c]
      have : (x - 1) % 2 ≠ 1 := by omega
      rw [if_neg this]
      have : (x - 1) / 2 = x / 2 := by omega
      rw [this]; simp
    · have e' : x % 2 = 0 := by omega
      obtain ⟨c1, c2⟩ := clear_low_even x e'
      have hlt : x / 2 < 2 ^ n := by rw [Nat.pow_succ] at h'; omega
      have ih := bitsFrom_step n (off + 1) (x / 2) (by omega) hlt
      have l : bitsFrom (n + 1) off x = bitsFrom n (off + 1) (x / 2) := by rw [bitsFrom, if_neg e]
      have r : bitsFrom (n + 1) off (x &&& (x - 1)) = bitsFrom n (off + 1) (x / 2 &&& (x / 2 - 1)) := by rw [bitsFrom, if_neg (by omega), c2]
      have k : Lib.ctzFrom (n + 1) x = 1 + Lib.ctzFrom n (x / 2) := by rw [Lib.ctzFrom, if_neg e]
      rw [l, r, k, ih]
      congr 1
      omega
theorem clear_lt (x : Nat) (h : x ≠ 0) : x &&& (x - 1) < x := Nat.lt_of_le_of_lt Nat.and_le_right (by omega)

/-! The bits of a union, and of a part. -/
theorem pop_congr : ∀ (n x y : Nat), (∀ i, i < n → x.testBit i = y.testBit i) → pop n x = pop n y
  | 0, _, _, _ => rfl
  | n + 1, x, y, h => by
    unfold pop
    have h0 := h 0 (by omega)
    rw [Nat.testBit_zero, Nat.testBit_zero] at h0
    have e : x % 2 = y % 2 := by
      have := Nat.mod_two_eq_zero_or_one x
      have := Nat.mod_two_eq_zero_or_one y
      by_cases a : x % 2 = 1 <;> by_cases b : y % 2 = 1 <;> simp [a, b] at h0 ⊢ <;> omega
    rw [e, pop_congr n (x / 2) (y / 2) (fun i hi => by rw [← Nat.testBit_succ, ← Nat.testBit_succ]; exact h (i + 1) (by omega))]
/-- A bit that is put in. -/
theorem pop_put : ∀ (n x c : Nat), c < n → x.testBit c = false → pop n (x ||| 2 ^ c) = pop n x + 1
  | 0, _, _, h, _ => absurd h (by omega)
  | n + 1, x, 0, _, h => by
    unfold pop
    rw [Nat.testBit_zero] at h
    have h0 : x % 2 = 0 := by simpa using h
    have a : (x ||| 2 ^ 0) % 2 = 1 := by
      have : (x ||| 2 ^ 0).testBit 0 = true := by rw [Nat.testBit_or]; simp
      rw [Nat.testBit_zero, decide_eq_true_eq] at this
      exact this
    have b : (x ||| 2 ^ 0) / 2 = x / 2 := by rw [Nat.or_div_two]; simp
    rw [a, b, h0]; omega
  | n + 1, x, c + 1, hc, h => by
    unfold pop
    have hlt : 2 ^ (c + 1) = 2 * 2 ^ c := by rw [Nat.pow_succ]; omega
    have a : (x ||| 2 ^ (c + 1)) % 2 = x % 2 := by
      have e : (x ||| 2 ^ (c + 1)).testBit 0 = x.testBit 0 := by rw [Nat.testBit_or]; simp [hlt]
      rw [Nat.testBit_zero, Nat.testBit_zero] at e
      have := Nat.mod_two_eq_zero_or_one x
      have := Nat.mod_two_eq_zero_or_one (x ||| 2 ^ (c + 1))
      by_cases a : x % 2 = 1 <;> by_cases b : (x ||| 2 ^ (c + 1)) % 2 = 1 <;> simp [a, b] at e ⊢ <;> omega
    have b : (x ||| 2 ^ (c + 1)) / 2 = x / 2 ||| 2 ^ c := by rw [Nat.or_div_two, hlt]; simp
    rw [a, b, pop_put n (x / 2) c (by omega) (by rw [Nat.testBit_succ] at h; exact h)]
    omega
theorem testBit_one_shift (c i : Nat) : (2 ^ c).testBit i = decide (c = i) := by rw [Nat.testBit_two_pow]
/-- Of what is put in, the part within K. -/
theorem pop_put_and (n x K c : Nat) (hc : c < n) (h : x.testBit c = false) : pop n ((x ||| 2 ^ c) &&& K) = pop n (x &&& K) + if K.testBit c = true then 1 else 0 := by
  by_cases hk : K.testBit c = true
  · rw [if_pos hk, ← pop_put n (x &&& K) c hc (by rw [Nat.testBit_and, h, Bool.false_and])]
    apply pop_congr
    intro i _
    rw [Nat.testBit_and, Nat.testBit_or, Nat.testBit_or, Nat.testBit_and, testBit_one_shift]
    by_cases e : c = i
    · subst e; simp [hk]
    · simp [e]
  · rw [if_neg hk, Nat.add_zero]
    apply pop_congr
    intro i _
    rw [Nat.testBit_and, Nat.testBit_or, Nat.testBit_and, testBit_one_shift]
    by_cases e : c = i
    · subst e; simp [hk]
    · simp [e]

/-! Counting bits by words (math/bits.OnesCount64). -/
def rep (p : Nat) : Nat → Nat
  | 0 => 0
  | n + 1 => p + 256 * rep p n
theorem and_split (u v : Nat) : u &&& v = ((u % 256) &&& (v % 256)) + 256 * ((u / 256) &&& (v / 256)) := by
  have h1 : (u &&& v) % 2 ^ 8 = (u % 2 ^ 8) &&& (v % 2 ^ 8) := Nat.and_mod_two_pow
  have h2 : (u &&& v) / 2 ^ 8 = (u / 2 ^ 8) &&& (v / 2 ^ 8) := Nat.and_div_two_pow
  have h3 := Nat.mod_add_div (u &&& v) 256
  have e : (2 ^ 8 : Nat) = 256 := rfl
  rw [e] at h1 h2
  rw [h1, h2] at h3
  exact h3.symm
theorem rep_mod (p n : Nat) (h : p < 256) : rep p (n + 1) % 256 = p := by unfold rep; omega
theorem rep_div (p n : Nat) (h : p < 256) : rep p (n + 1) / 256 = rep p n := by rw [rep]; omega

def pre1 (n x : Nat) : Nat := (x / 2 &&& rep 85 n) + (x &&& rep 85 n)
def pre2 (n x : Nat) : Nat := (x / 4 &&& rep 51 n) + (x &&& rep 51 n)
def pre3 (n x : Nat) : Nat := (x / 16 + x) &&& rep 15 n
def s1 (b : Nat) : Nat := (b / 2 &&& 85) + (b &&& 85)
def s2 (b : Nat) : Nat := (b / 4 &&& 51) + (b &&& 51)
def s3 (b : Nat) : Nat := (b / 16 + b) &&& 15
theorem f1 : ∀ b : Fin 256, ∀ t : Fin 2, (b.val / 2 + 128 * t.val) &&& 85 = b.val / 2 &&& 85 := by decide +kernel
theorem f2 : ∀ b : Fin 256, ∀ t : Fin 4, (b.val / 4 + 64 * t.val) &&& 51 = b.val / 4 &&& 51 := by decide +kernel
theorem f3 : ∀ b : Fin 69, ∀ t : Fin 5, (b.val / 16 + b.val + 16 * t.val) &&& 15 = (b.val / 16 + b.val) &&& 15 := by decide +kernel
theorem s1_lt : ∀ b : Fin 256, s1 b.val < 256 := by decide +kernel
theorem s2_lt : ∀ b : Fin 256, s2 (s1 b.val) ≤ 68 ∧ s2 (s1 b.val) % 16 ≤ 4 := by decide +kernel
theorem s3_pop : ∀ b : Fin 256, s3 (s2 (s1 b.val)) = pop 8 b.val := by decide +kernel
theorem pre1_step (n x : Nat) : pre1 (n + 1) x = s1 (x % 256) + 256 * pre1 n (x / 256) := by
  unfold pre1 s1
  rw [and_split (x / 2), and_split x (rep 85 (n + 1)), rep_mod 85 n (by omega), rep_div 85 n (by omega)]
  have h := f1 ⟨x % 256, Nat.mod_lt _ (by omega)⟩ ⟨x / 256 % 2, Nat.mod_lt _ (by omega)⟩
  have e1 : x / 2 % 256 = x % 256 / 2 + 128 * (x / 256 % 2) := by omega
  have e2 : x / 2 / 256 = x / 256 / 2 := by omega
  simp only at h
  rw [e1, e2, h]
  omega
theorem pre2_step (n x : Nat) : pre2 (n + 1) x = s2 (x % 256) + 256 * pre2 n (x / 256) := by
  unfold pre2 s2
  rw [and_split (x / 4), and_split x (rep 51 (n + 1)), rep_mod 51 n (by omega), rep_div 51 n (by omega)]
  have h := f2 ⟨x % 256, Nat.mod_lt _ (by omega)⟩ ⟨x / 256 % 4, Nat.mod_lt _ (by omega)⟩
  have e1 : x / 4 % 256 = x % 256 / 4 + 64 * (x / 256 % 4) := by omega
  have e2 : x / 4 / 256 = x / 256 / 4 := by omega
  simp only at h
  rw [e1, e2, h]
  omega
theorem pre3_step (n x : Nat) (h1 : x % 256 ≤ 68) (h2 : x / 256 % 16 ≤ 4) : pre3 (n + 1) x = s3 (x % 256) + 256 * pre3 n (x / 256) := by
  unfold pre3 s3
  rw [and_split (x / 16 + x), rep_mod 15 n (by omega), rep_div 15 n (by omega)]
  have h := f3 ⟨x % 256, by omega⟩ ⟨x / 256 % 16, by omega⟩
  have e1 : (x / 16 + x) % 256 = x % 256 / 16 + x % 256 + 16 * (x / 256 % 16) := by omega
  have e2 : (x / 16 + x) / 256 = x / 256 / 16 + x / 256 := by omega
  simp only at h
  rw [e1, e2, h]
/-- The bytes' counts, side by side. -/
def bytesPop : Nat → Nat → Nat
  | 0, _ => 0
  | n + 1, x => pop 8 (x % 256) + 256 * bytesPop n (x / 256)
theorem pre2_low : ∀ (n x : Nat), pre2 n (pre1 n x) % 16 ≤ 4
  | 0, x => by unfold pre2 rep; simp
  | n + 1, x => by
    have h := s1_lt ⟨x % 256, Nat.mod_lt _ (by omega)⟩
    have k := (s2_lt ⟨x % 256, Nat.mod_lt _ (by omega)⟩).2
    simp only at h k
    rw [pre2_step, pre1_step]
    have e : (s1 (x % 256) + 256 * pre1 n (x / 256)) % 256 = s1 (x % 256) := by omega
    rw [e]; omega
theorem pre_all : ∀ (n x : Nat), pre3 n (pre2 n (pre1 n x)) = bytesPop n x
  | 0, x => by unfold pre3 rep bytesPop; simp
  | n + 1, x => by
    have h := s1_lt ⟨x % 256, Nat.mod_lt _ (by omega)⟩
    have k := s2_lt ⟨x % 256, Nat.mod_lt _ (by omega)⟩
    have p := s3_pop ⟨x % 256, Nat.mod_lt _ (by omega)⟩
    have l := pre2_low n (x / 256)
    simp only at h k p
    have e1 : (s1 (x % 256) + 256 * pre1 n (x / 256)) % 256 = s1 (x % 256) := by omega
    have e2 : (s1 (x % 256) + 256 * pre1 n (x / 256)) / 256 = pre1 n (x / 256) := by omega
    have e3 : (s2 (s1 (x % 256)) + 256 * pre2 n (pre1 n (x / 256))) % 256 = s2 (s1 (x % 256)) := by omega
    have e4 : (s2 (s1 (x % 256)) + 256 * pre2 n (pre1 n (x / 256))) / 256 = pre2 n (pre1 n (x / 256)) := by omega
    have a : pre2 (n + 1) (pre1 (n + 1) x) = s2 (s1 (x % 256)) + 256 * pre2 n (pre1 n (x / 256)) := by rw [pre2_step, pre1_step, e1, e2]
    rw [a, pre3_step n _ (by rw [e3]; omega) (by rw [e4]; exact l), e3, e4, p, pre_all n (x / 256), bytesPop]
theorem pop_split : ∀ (m n x : Nat), pop (m + n) x = pop m (x % 2 ^ m) + pop n (x / 2 ^ m)
  | 0, n, x => by simp [pop]
  | m + 1, n, x => by
    have e : m + 1 + n = (m + n) + 1 := by omega
    have ep : 2 ^ (m + 1) = 2 * 2 ^ m := by rw [Nat.pow_succ]; omega
    have e1 : x % 2 ^ (m + 1) % 2 = x % 2 := by rw [ep, Nat.mod_mul_right_mod]
    have e2 : x % 2 ^ (m + 1) / 2 = x / 2 % 2 ^ m := by rw [ep, Nat.mod_mul_right_div_self]
    have e3 : x / 2 / 2 ^ m = x / 2 ^ (m + 1) := by rw [Nat.div_div_eq_div_mul, ep]
    rw [e, pop, pop_split m n (x / 2), pop, e1, e2, e3]; omega
theorem pop_byte (n x : Nat) : pop (8 + n) x = pop 8 (x % 256) + pop n (x / 256) := pop_split 8 n x
theorem pop8_le (x : Nat) : pop 8 (x % 256) ≤ 8 := by
  have : ∀ b : Fin 256, pop 8 b.val ≤ 8 := by decide +kernel
  exact this ⟨x % 256, Nat.mod_lt _ (by omega)⟩
theorem bytes_step (n x : Nat) : bytesPop (n + 1) x = pop 8 (x % 256) + 256 * bytesPop n (x / 256) := rfl
theorem pop8_mod (x : Nat) : pop 8 x = pop 8 (x % 256) := pop_byte 0 x
/-- The sum of the bytes, as OnesCount64 forms it. -/
theorem bytes_sum (x : Nat) : ∃ p0 p1 p2 p3 p4 p5 p6 p7 : Nat, p0 ≤ 8 ∧ p1 ≤ 8 ∧ p2 ≤ 8 ∧ p3 ≤ 8 ∧ p4 ≤ 8 ∧ p5 ≤ 8 ∧ p6 ≤ 8 ∧ p7 ≤ 8 ∧
    bytesPop 8 x = p0 + 256 * (p1 + 256 * (p2 + 256 * (p3 + 256 * (p4 + 256 * (p5 + 256 * (p6 + 256 * p7)))))) ∧ pop 64 x = p0 + (p1 + (p2 + (p3 + (p4 + (p5 + (p6 + p7)))))) := by
  refine ⟨_, _, _, _, _, _, _, _, pop8_le x, pop8_le (x / 256), pop8_le (x / 256 / 256), pop8_le (x / 256 / 256 / 256), pop8_le (x / 256 / 256 / 256 / 256), pop8_le (x / 256 / 256 / 256 / 256 / 256), pop8_le (x / 256 / 256 / 256 / 256 / 256 / 256), pop8_le (x / 256 / 256 / 256 / 256 / 256 / 256 / 256), ?_, ?_⟩
  · rw [bytes_step 7, bytes_step 6, bytes_step 5, bytes_step 4, bytes_step 3, bytes_step 2, bytes_step 1, bytes_step 0]
    show _ + 256 * (_ + 256 * (_ + 256 * (_ + 256 * (_ + 256 * (_ + 256 * (_ + 256 * (_ + 256 * 0))))))) = _
    rw [Nat.mul_zero, Nat.add_zero]
  · rw [pop_byte 56, pop_byte 48, pop_byte 40, pop_byte 32, pop_byte 24, pop_byte 16, pop_byte 8, pop8_mod (x / 256 / 256 / 256 / 256 / 256 / 256 / 256)]
theorem sum_tail (c p0 p1 p2 p3 p4 p5 p6 p7 : Nat) (h0 : p0 ≤ 8) (h1 : p1 ≤ 8) (h2 : p2 ≤ 8) (h3 : p3 ≤ 8) (h4 : p4 ≤ 8) (h5 : p5 ≤ 8) (h6 : p6 ≤ 8) (h7 : p7 ≤ 8)
    (hc : c = p0 + 256 * (p1 + 256 * (p2 + 256 * (p3 + 256 * (p4 + 256 * (p5 + 256 * (p6 + 256 * p7))))))) :
    ∃ d e f : Nat, d = c + c / 256 ∧ e = d + d / 65536 ∧ f = e + e / 4294967296 ∧ f % 128 = p0 + (p1 + (p2 + (p3 + (p4 + (p5 + (p6 + p7)))))) ∧ c < 1000000000000000000 ∧ d < 1000000000000000000 ∧ e < 1000000000000000000 ∧ f < 1000000000000000000 := by
  have e1 : c / 256 = p1 + 256 * (p2 + 256 * (p3 + 256 * (p4 + 256 * (p5 + 256 * (p6 + 256 * p7))))) := by omega
  obtain ⟨d, hd⟩ : ∃ d, d = c + c / 256 := ⟨_, rfl⟩
  have hd' := hd
  rw [e1, hc] at hd
  have e2 : d / 65536 = (p2 + p3) + 256 * ((p3 + p4) + 256 * ((p4 + p5) + 256 * ((p5 + p6) + 256 * ((p6 + p7) + 256 * p7)))) := by clear hc e1 hd'; omega
  obtain ⟨e, he⟩ : ∃ e, e = d + d / 65536 := ⟨_, rfl⟩
  have he' := he
  rw [e2, hd] at he
  have e3 : e / 4294967296 = (p4 + p5 + p6 + p7) + 256 * ((p5 + p6 + p7) + 256 * ((p6 + p7) + 256 * p7)) := by clear hc e1 hd' hd he' e2; omega
  obtain ⟨f, hf⟩ : ∃ f, f = e + e / 4294967296 := ⟨_, rfl⟩
  have hf' := hf
  rw [e3, he] at hf
  refine ⟨d, e, f, hd', he', hf', ?_, ?_, ?_, ?_, ?_⟩
  · clear hc e1 hd' hd he' e2 he e3 hf'
    omega
  · clear e1 hd' hd he' e2 he e3 hf' hf; omega
  · clear hc e1 hd' he' e2 he e3 hf' hf; omega
  · clear hc e1 hd' hd he' e2 e3 hf' hf; omega
  · clear hc e1 hd' hd he' e2 e3 hf' he; omega

/-- OnesCount64's words, step by step. -/
def w1 (x : Nat) : Nat := (x / 2 &&& 6148914691236517205) + (x &&& 6148914691236517205)
def w2 (x : Nat) : Nat := (x / 4 &&& 3689348814741910323) + (x &&& 3689348814741910323)
def w3 (x : Nat) : Nat := (x / 16 + x) &&& 1085102592571150095
theorem rep85 : rep 85 8 = 6148914691236517205 := by decide +kernel
theorem rep51 : rep 51 8 = 3689348814741910323 := by decide +kernel
theorem rep15 : rep 15 8 = 1085102592571150095 := by decide +kernel
theorem w_all (x : Nat) : w3 (w2 (w1 x)) = bytesPop 8 x := by
  have h := pre_all 8 x
  unfold pre3 pre2 pre1 at h
  rw [rep85, rep51, rep15] at h
  exact h
/-- What OnesCount64 comes to. -/
theorem words_pop (x : Nat) : ∃ d e f : Nat, d = w3 (w2 (w1 x)) + w3 (w2 (w1 x)) / 256 ∧ e = d + d / 65536 ∧ f = e + e / 4294967296 ∧ f % 128 = pop 64 x ∧
    w3 (w2 (w1 x)) < 1000000000000000000 ∧ d < 1000000000000000000 ∧ e < 1000000000000000000 ∧ f < 1000000000000000000 := by
  obtain ⟨p0, p1, p2, p3, p4, p5, p6, p7, h0, h1, h2, h3, h4, h5, h6, h7, hb, hp⟩ := bytes_sum x
  rw [w_all, hp]
  exact sum_tail _ p0 p1 p2 p3 p4 p5 p6 p7 h0 h1 h2 h3 h4 h5 h6 h7 hb

end Go.Proofs.Ytlcimofhpphefaa

/-! Plain facts on lists of cards: which are cards, their set, how many have a property. Nothing of the program is imported. -/
namespace Go.Proofs.Ytlcimofhpphefaa

/-! Lists of cards. -/
/-- The numbers are cards, and none occurs twice. -/
def cardsB (l : List Int) : Bool := decide ((∀ x ∈ l, 0 ≤ x ∧ x < 52) ∧ l.Nodup)
theorem cards_nil : cardsB [] = true := by unfold cardsB; simp
theorem cards_iff (l : List Int) : cardsB l = true ↔ (∀ x ∈ l, 0 ≤ x ∧ x < 52) ∧ l.Nodup := by unfold cardsB; simp
theorem cards_snoc (l : List Int) (x : Int) (h : cardsB l = true) (h0 : 0 ≤ x) (h1 : x < 52) (hx : x ∉ l) : cardsB (l ++ [x]) = true := by
  rw [cards_iff] at h ⊢
  refine ⟨fun y hy => ?_, ?_⟩
  · rcases List.mem_append.1 hy with hy | hy
    · exact h.1 y hy
    · obtain rfl : y = x := by simpa using hy
      exact ⟨h0, h1⟩
  · rw [List.nodup_append]
    exact ⟨h.2, by simp, fun a ha b hb e => by subst e; obtain rfl : a = x := by simpa using hb
                                               exact hx ha⟩
theorem cards_take (l : List Int) (k : Nat) (h : cardsB l = true) : cardsB (l.take k) = true := by
  rw [cards_iff] at h ⊢
  exact ⟨fun x hx => h.1 x (List.mem_of_mem_take hx), h.2.sublist (List.take_sublist ..)⟩
theorem cards_no_out (l : List Int) (x : Int) (hx : x ∈ l) (h : ¬ (0 ≤ x ∧ x < 52)) : cardsB l = false := by
  by_cases c : cardsB l = true
  · exact absurd ((cards_iff l).1 c |>.1 x hx) h
  · simpa using c
theorem take_snocI (l : List Int) (k : Nat) (h : k < l.length) : l.take (k + 1) = l.take k ++ [l[k]] := by
  rw [List.take_succ_eq_append_getElem h]
theorem cards_no_twice (l : List Int) (k : Nat) (hk : k < l.length) (h : l[k] ∈ l.take k) : cardsB l = false := by
  by_cases c : cardsB l = true
  · have := (cards_iff _).1 (cards_take l (k + 1) c) |>.2
    rw [take_snocI l k hk, List.nodup_append] at this
    exact absurd rfl (this.2.2 _ h _ (by simp))
  · simpa using c

/-- The set of a list of cards: bit x for each card x. -/
def maskOf (l : List Int) : Nat := l.foldl (fun m x => m ||| 2 ^ x.toNat) 0
theorem mask_nil : maskOf [] = 0 := rfl
theorem mask_snoc (l : List Int) (x : Int) : maskOf (l ++ [x]) = maskOf l ||| 2 ^ x.toNat := by unfold maskOf; rw [List.foldl_append]; rfl
theorem mask_bit_from : ∀ (l : List Int) (m i : Nat), (l.foldl (fun m x => m ||| 2 ^ x.toNat) m).testBit i = (m.testBit i || l.any (fun x => x.toNat == i))
  | [], m, i => by simp
  | x :: l, m, i => by
    rw [List.foldl_cons, mask_bit_from l, Nat.testBit_or, testBit_one_shift, List.any_cons, Bool.or_assoc]
    rfl
theorem mask_bit (l : List Int) (i : Nat) : (maskOf l).testBit i = l.any (fun x => x.toNat == i) := by
  unfold maskOf; rw [mask_bit_from]; simp
theorem mask_mem (l : List Int) (x : Int) (h : cardsB l = true) (hx : 0 ≤ x) : (maskOf l).testBit x.toNat = true ↔ x ∈ l := by
  rw [mask_bit, List.any_eq_true]
  constructor
  · rintro ⟨y, hy, e⟩
    have h2 := (cards_iff l).1 h |>.1 y hy
    have : y = x := by simp at e; omega
    subst this; exact hy
  · exact fun hm => ⟨x, hm, by simp⟩
theorem mask_lt (l : List Int) (h : cardsB l = true) : maskOf l < 2 ^ 52 := by
  apply Nat.lt_pow_two_of_testBit
  intro i hi
  rw [mask_bit]
  by_cases c : l.any (fun x => x.toNat == i) = true
  · obtain ⟨y, hy, e⟩ := List.any_eq_true.1 c
    have h2 := (cards_iff l).1 h |>.1 y hy
    simp at e; omega
  · simpa using c

/-- How many numbers of a list have a property. -/
def cnt (p : Int → Bool) (l : List Int) : Nat := (l.filter p).length
theorem cnt_nil (p : Int → Bool) : cnt p [] = 0 := rfl
theorem cnt_snoc (p : Int → Bool) (l : List Int) (x : Int) : cnt p (l ++ [x]) = cnt p l + if p x = true then 1 else 0 := by
  unfold cnt
  rw [List.filter_append, List.length_append]
  by_cases h : p x = true <;> simp [h]
theorem cnt_le (p : Int → Bool) (l : List Int) : cnt p l ≤ l.length := List.length_filter_le ..
/-- The bits of the set within K count the cards whose bit lies in K. -/
theorem pop_mask (K : Nat) (l : List Int) (h : cardsB l = true) : ∀ k, k ≤ l.length → pop 64 (maskOf (l.take k) &&& K) = cnt (fun x => K.testBit x.toNat) (l.take k)
  | 0, _ => by rw [List.take_zero, mask_nil, Nat.zero_and, pop_zero]; rfl
  | k + 1, hk => by
    have ih := pop_mask K l h k (by omega)
    have hb := (cards_iff l).1 h |>.1 l[k] (List.getElem_mem _)
    have hn : l[k] ∉ l.take k := fun hm => by rw [cards_no_twice l k (by omega) hm] at h; cases h
    have hf : (maskOf (l.take k)).testBit (l[k]).toNat = false := by
      by_cases c : (maskOf (l.take k)).testBit (l[k]).toNat = true
      · exact absurd ((mask_mem _ _ (cards_take l k h) hb.1).1 c) hn
      · simpa using c
    rw [take_snocI l k (by omega), mask_snoc, cnt_snoc, pop_put_and _ _ _ _ (by omega) hf, ih]


end Go.Proofs.Ytlcimofhpphefaa

/-! Whether a number is a card: both texts' walks. -/
namespace Go.Proofs.Ytlcimofhpphefaa
open Go.RowKit

theorem isC_yes (x : Int) (h0 : 0 ≤ x) (h1 : x < 52) : inB x 0 51 = true := inB_yes _ _ _ h0 (by omega)
theorem isC_no (x : Int) (h : x < 0 ∨ 52 ≤ x) : inB x 0 51 = false := outB_inB _ _ _ (by unfold outB; omega)
end Go.Proofs.Ytlcimofhpphefaa

/-! Lists of numbers in memory: how a slice reads, a row of the call's own, and a list as a law's argument. -/
namespace Go.Proofs.Ytlcimofhpphefaa
open Go.ChangeShapes Go.WideShapes Go.ChangeAt Go.RowKit Go.Joins
set_option linter.unusedVariables false

/-- The i-th number of a list; 0 past its end. -/
def nth (xs : List Int) (i : Nat) : Int := xs.getD i 0
theorem nth_eq (xs : List Int) (i : Nat) (h : i < xs.length) : nth xs i = xs[i] := by unfold nth; rw [List.getD_eq_getElem?_getD, List.getElem?_eq_getElem h]; rfl
theorem nth_mem (xs : List Int) (i : Nat) (h : i < xs.length) : nth xs i ∈ xs := by rw [nth_eq xs i h]; exact List.getElem_mem h
theorem take_nth (xs : List Int) (k : Nat) (h : k < xs.length) : xs.take (k + 1) = xs.take k ++ [nth xs k] := by rw [nth_eq xs k h]; exact take_snocI xs k h
theorem take_len (xs : List Int) : xs.take xs.length = xs := List.take_of_length_le (Nat.le_refl _)
/-- Numbers as values. -/
def ints (xs : List Int) : List Value := xs.map (Value.int .i64)
theorem ints_length (xs : List Int) : (ints xs).length = xs.length := by simp [ints]
theorem ints_snoc (xs : List Int) (x : Int) : ints (xs ++ [x]) = ints xs ++ [.int .i64 x] := by simp [ints]
theorem ints_append (xs ys : List Int) : ints (xs ++ ys) = ints xs ++ ints ys := by simp [ints]
theorem ints_get (xs : List Int) (i : Nat) (h : i < xs.length) : (ints xs)[i]? = some (.int .i64 (nth xs i)) := by simp [ints, h, nth_eq xs i h]
theorem ints_set (xs : List Int) (i : Nat) (x : Int) : (ints xs).set i (.int .i64 x) = ints (xs.set i x) := by simp [ints, List.map_set]
theorem ints_zeros (n : Nat) : List.replicate n (Value.int .i64 0) = ints (List.replicate n 0) := by simp [ints]

/-- A slice at A reads as the list. -/
def Rd (w : World) (A : Option Addr) (xs : List Int) : Prop := 0 < xs.length → ∃ b off, A = some ⟨b, off, none⟩ ∧ ∀ i, i < xs.length → w.cell? ⟨b, off + i, none⟩ = some (.int .i64 (nth xs i))
theorem Rd.keep {w w' : World} {A : Option Addr} {xs : List Int} (h : Rd w A xs) (hk : ∀ a : Addr, A = some a → w'.heap[a.block]? = w.heap[a.block]?) : Rd w' A xs := by
  intro h0
  obtain ⟨b, off, rfl, hc⟩ := h h0
  exact ⟨b, off, rfl, fun i hi => (World.cell?_of_block (w := w) (a := ⟨b, off + i, none⟩) (hk ⟨b, off, none⟩ rfl)).trans (hc i hi)⟩
theorem Rd.lt {w : World} {A : Option Addr} {xs : List Int} (h : Rd w A xs) (h0 : 0 < xs.length) {a : Addr} (e : A = some a) : a.block < w.heap.size := by
  obtain ⟨b, off, rfl, hc⟩ := h h0
  injection e with e
  subst e
  exact World.block_lt_of_cell? w _ (hc 0 h0)
theorem Rd.below {w w' : World} {A : Option Addr} {xs : List Int} (h : Rd w A xs) (hb : Below w.heap.size w w') : Rd w' A xs := by
  intro h0
  obtain ⟨b, off, rfl, hc⟩ := h h0
  exact ⟨b, off, rfl, fun i hi => (hb.cell (p := ⟨b, off + i, none⟩) (World.block_lt_of_cell? w _ (hc i hi))).trans (hc i hi)⟩
theorem Rd.at_ {w w' : World} {A : Option Addr} {xs : List Int} (h : Rd w A xs) (hb : Below w.heap.size w w') (k : Nat) (hk : k < xs.length) : ∃ b off, A = some ⟨b, off, none⟩ ∧ w'.cell? ⟨b, off + k, none⟩ = some (.int .i64 (nth xs k)) := by
  obtain ⟨b, off, rfl, hc⟩ := (h.below hb) (by omega)
  exact ⟨b, off, rfl, hc k hk⟩
/-- A list that differs from what has been written. -/
theorem Rd.grown {w w' : World} {A : Option Addr} {xs : List Int} {row : Option Nat} (h : Rd w A xs) (hg : w.grownBy w' row) (hne : ∀ a, A = some a → row ≠ some a.block) : Rd w' A xs := by
  intro h0
  have hlt := fun a e => h.lt h0 (a := a) e
  exact (h.keep fun a e => hg.block a.block (hlt a e) (fun e' => hne a e e'.symm)) h0

/-- A row of numbers of the call's own: none of its blocks lies below lo. -/
def Own (w : World) (lo : Nat) (v : Value) (xs : List Int) : Prop := w.ownsRow lo 2 1 v xs.length (ints xs)
theorem Own.rd {w : World} {lo : Nat} {A : Option Addr} {c : Nat} {xs : List Int} (h : Own w lo (.slice A xs.length c) xs) : Rd w A xs := by
  intro h0
  rcases h.2 with ⟨e, hn⟩ | ⟨g, cap, cur, hv, hb, hg, hnc, _⟩
  · omega
  · have hv' := hv
    injection hv' with hA _ hc
    subst hA hc
    refine ⟨g, 0, rfl, fun i hi => ?_⟩
    rw [Nat.zero_add, World.ownsRow.cellAt h i (by omega), ints_get xs i hi]
theorem Own.lo_le {w : World} {lo : Nat} {A : Option Addr} {c n : Nat} {xs : List Int} (h : Own w lo (.slice A n c) xs) (a : Addr) (e : A = some a) : lo ≤ a.block ∧ a.block < w.heap.size := by
  subst e
  exact World.ownsRow.lt h a.block rfl
theorem Own.below {w w' : World} {lo : Nat} {v : Value} {xs : List Int} (h : Own w lo v xs) (hb : Below w.heap.size w w') : Own w' lo v xs := by
  refine ⟨h.1, ?_⟩
  rcases h.2 with hn | ⟨g, cap, cur, rfl, hl, hgg, rest⟩
  · exact .inl hn
  · exact .inr ⟨g, cap, cur, rfl, hl, (hb.block g (Array.getElem?_eq_some_iff.1 hgg).1).trans hgg, rest⟩
theorem Own.less {w : World} {lo lo' : Nat} {v : Value} {xs : List Int} (h : Own w lo v xs) (hl : lo' ≤ lo) : Own w lo' v xs := by
  refine ⟨h.1, ?_⟩
  rcases h.2 with hn | ⟨g, cap, cur, rfl, hlo, rest⟩
  · exact .inl hn
  · exact .inr ⟨g, cap, cur, rfl, Nat.le_trans hl hlo, rest⟩
theorem Own.grown {w w' : World} {lo : Nat} {v : Value} {xs : List Int} {row : Option Nat} (h : Own w lo v xs) (hg : w.grownBy w' row) (hne : v.ownBlock = none ∨ v.ownBlock ≠ row) : Own w' lo v xs := World.ownsRow.kept h hg hne
theorem Own.nil (w : World) (lo : Nat) : Own w lo (.slice none 0 0) [] := World.ownsRow_nil w lo 2 1
/-- What a call leaves that returns a list in new memory. -/
def NewL (xs : List Int) (w : World) (e : Ending) (w' : World) : Prop := ∃ A c, e = .returned (.slice A xs.length c) ∧ Own w' w.heap.size (.slice A xs.length c) xs ∧ Below w.heap.size w w'
/-- The same with a code beside it. -/
def NewLC (xs : List Int) (code : Int) (w : World) (e : Ending) (w' : World) : Prop := ∃ A c, e = .returned (.tuple #[.slice A xs.length c, .int .i64 code]) ∧ Own w' w.heap.size (.slice A xs.length c) xs ∧ Below w.heap.size w w'

set_option maxRecDepth 100000 in
/-- A list as a law's argument. -/
theorem open_list {H : Type} {enc : TypeId × Value → H} {W : World} {base : Nat} {v : Value} {d : DataW H} {p : List MemPlace}
    (hv : Value.okWide Try.prog W .any base 22 v) (h : DataW.Trod enc Try.prog W 0 (fun _ => true) true 22 v d p) :
    ∃ (A : Option Addr) (c : Nat) (xs : List Int), v = .slice A xs.length c ∧ xs.length ≤ maxLen ∧ Rd W A xs := by
  obtain ⟨a0, len, cap, rfl⟩ := okWide_slice Try.underlying22 hv
  obtain ⟨fuel, hf⟩ := h
  rcases open_ints Try.underlying22 Try.underlying2 (by kernel_rfl) hf with ⟨hcs, hx⟩ | ⟨a, len', cap', zs, hcs, _, hl, hm, hz, hx, hcell, hwz⟩
  · simp [Value.cells] at hcs
    obtain ⟨rfl, rfl, rfl⟩ := hcs
    exact ⟨none, 0, [], rfl, by unfold maxLen; simp, fun h => by simp at h⟩
  · simp [Value.cells] at hcs
    obtain ⟨rfl, rfl, rfl⟩ := hcs
    have hlen : len ≤ zs.length := by rw [hz]; simp; exact hl
    have ht : (zs.take len).length = len := by rw [List.length_take]; omega
    refine ⟨some a, cap, zs.take len, by rw [ht], by rw [ht]; omega, fun h0 => ?_⟩
    rw [ht] at h0
    obtain ⟨b, off, rfl, hc⟩ := ints_at hcell (by omega)
    refine ⟨b, off, rfl, fun i hi => ?_⟩
    rw [ht] at hi
    rw [hc i (by omega)]
    congr 2
    unfold nth
    rw [List.getD_eq_getElem?_getD, List.getD_eq_getElem?_getD, List.getElem?_take, if_pos hi]

theorem infoInt : (Try.prog.info? 2).map (fun i => (i.zero, i.size, i.bytes)) = some (some (.int .i64 0), 1, 8) := by kernel_rfl
end Go.Proofs.Ytlcimofhpphefaa

/-! Plain facts on decks: rearranged lists, cuts, riffles, shuffles, hands that are dealt. Nothing of the program is imported. -/
namespace Go.Proofs.Ytlcimofhpphefaa

/-- There are 52 cards. -/
theorem below_len : ∀ (n : Nat) (l : List Int), (∀ x ∈ l, 0 ≤ x ∧ x < n) → l.Nodup → l.length ≤ n
  | 0, [], _, _ => Nat.le_refl _
  | 0, x :: l, h, _ => by have := h x (by simp); omega
  | n + 1, l, h, hd => by
    by_cases hm : (n : Int) ∈ l
    · have ih := below_len n (l.erase n) (fun x hx => by
        have h1 := h x (List.mem_of_mem_erase hx)
        have h2 : x ≠ n := fun e => by subst e; exact (List.Nodup.not_mem_erase hd) hx
        omega) (hd.erase _)
      rw [List.length_erase_of_mem hm] at ih
      omega
    · have ih := below_len n l (fun x hx => by
        have h1 := h x hx
        have h2 : x ≠ n := fun e => hm (e ▸ hx)
        omega) hd
      omega
theorem deck_len (xs : List Int) (h : cardsB xs = true) : xs.length ≤ 52 := below_len 52 xs (fun x hx => (cards_iff xs).1 h |>.1 x hx) ((cards_iff xs).1 h).2
/-- A list is a deck. -/
def deckB (xs : List Int) : Bool := decide (xs.length = 52) && cardsB xs
theorem deck_iff (xs : List Int) : deckB xs = true ↔ xs.length = 52 ∧ cardsB xs = true := by unfold deckB; simp
theorem deck_no {xs : List Int} (h : ¬ xs.length = 52) : deckB xs = false := by unfold deckB; simp [h]
theorem deck_no' {xs : List Int} (h : cardsB xs = false) : deckB xs = false := by unfold deckB; simp [h]
theorem deck_at {xs : List Int} (h : xs.length = 52) : deckB xs = cardsB xs := by unfold deckB; simp [h]
theorem deck_mem (xs : List Int) (h : deckB xs = true) (x : Int) (h0 : 0 ≤ x) (h1 : x < 52) : x ∈ xs := by
  obtain ⟨hl, hc⟩ := (deck_iff xs).1 h
  by_cases hx : x ∈ xs
  · exact hx
  · have := deck_len _ (cards_snoc xs x hc h0 h1 hx)
    rw [List.length_append, hl] at this
    simp at this

/-- The i-th number of a list; 0 past its end. -/
def ix (xs : List Int) (i : Nat) : Int := xs.getD i 0
theorem ix_eq (xs : List Int) (i : Nat) (h : i < xs.length) : ix xs i = xs[i] := by unfold ix; rw [List.getD_eq_getElem?_getD, List.getElem?_eq_getElem h]; rfl
theorem ix_mem (xs : List Int) (i : Nat) (h : i < xs.length) : ix xs i ∈ xs := by rw [ix_eq xs i h]; exact List.getElem_mem h
theorem ix_inj (xs : List Int) (hd : xs.Nodup) (i j : Nat) (hi : i < xs.length) (hj : j < xs.length) (e : ix xs i = ix xs j) : i = j := by
  rw [ix_eq xs i hi, ix_eq xs j hj] at e
  exact (List.getElem_inj hd).1 e
theorem ix_ext {xs ys : List Int} (hl : xs.length = ys.length) (h : ∀ i, i < xs.length → ix xs i = ix ys i) : xs = ys := by
  apply List.ext_getElem hl
  intro i h1 h2
  rw [← ix_eq xs i h1, ← ix_eq ys i h2]
  exact h i h1
theorem ix_append_left (xs ys : List Int) (i : Nat) (h : i < xs.length) : ix (xs ++ ys) i = ix xs i := by
  rw [ix_eq _ i (by simp; omega), ix_eq _ i h, List.getElem_append_left h]
theorem ix_append_right (xs ys : List Int) (i : Nat) (h : i < ys.length) : ix (xs ++ ys) (xs.length + i) = ix ys i := by
  rw [ix_eq _ _ (by simp; omega), ix_eq _ i h, List.getElem_append_right (by omega)]
  simp
theorem ix_drop (xs : List Int) (n i : Nat) : ix (xs.drop n) i = ix xs (n + i) := by
  unfold ix; rw [List.getD_eq_getElem?_getD, List.getD_eq_getElem?_getD, List.getElem?_drop]
theorem ix_take (xs : List Int) (n i : Nat) (h : i < n) : ix (xs.take n) i = ix xs i := by
  unfold ix; rw [List.getD_eq_getElem?_getD, List.getD_eq_getElem?_getD, List.getElem?_take, if_pos h]
theorem ix_set_same (xs : List Int) (i : Nat) (x : Int) (h : i < xs.length) : ix (xs.set i x) i = x := by
  rw [ix_eq _ i (by simpa using h), List.getElem_set_self]
theorem ix_set_other (xs : List Int) (i j : Nat) (x : Int) (h : i ≠ j) : ix (xs.set i x) j = ix xs j := by
  unfold ix; rw [List.getD_eq_getElem?_getD, List.getD_eq_getElem?_getD, List.getElem?_set_ne h]

/-- The list that has, at each of n places p, the number at the place f p. -/
def permN (f : Nat → Nat) (n : Nat) (xs : List Int) : List Int := (List.range n).map (fun p => ix xs (f p))
def perm (f : Nat → Nat) (xs : List Int) : List Int := permN f 52 xs
theorem permN_length (f : Nat → Nat) (n : Nat) (xs : List Int) : (permN f n xs).length = n := by simp [permN]
theorem perm_length (f : Nat → Nat) (xs : List Int) : (perm f xs).length = 52 := permN_length f 52 xs
theorem permN_ix (f : Nat → Nat) (n : Nat) (xs : List Int) (p : Nat) (h : p < n) : ix (permN f n xs) p = ix xs (f p) := by
  rw [ix_eq _ p (by rw [permN_length]; exact h)]; simp [permN]
theorem perm_ix (f : Nat → Nat) (xs : List Int) (p : Nat) (h : p < 52) : ix (perm f xs) p = ix xs (f p) := permN_ix f 52 xs p h
theorem permN_snoc (f : Nat → Nat) (n : Nat) (xs : List Int) : permN f (n + 1) xs = permN f n xs ++ [ix xs (f n)] := by simp [permN, List.range_succ]
theorem permN_cards (f : Nat → Nat) (n : Nat) (xs : List Int) (h : cardsB xs = true) (hf : ∀ p, p < n → f p < xs.length) (hi : ∀ p q, p < n → q < n → f p = f q → p = q) : cardsB (permN f n xs) = true := by
  have hc := (cards_iff xs).1 h
  rw [cards_iff]
  refine ⟨fun x hx => ?_, ?_⟩
  · obtain ⟨p, hp, rfl⟩ := List.mem_map.1 hx
    exact hc.1 _ (ix_mem xs _ (hf p (by simpa using hp)))
  · unfold permN List.Nodup
    rw [List.pairwise_map]
    have hr : (List.range n).Pairwise (fun a b => a ∈ List.range n ∧ b ∈ List.range n ∧ a ≠ b) := by
      rw [List.pairwise_iff_getElem]
      intro i j h1 h2 hij
      simp at h1 h2 ⊢
      omega
    refine hr.imp (fun {a b} hab e => ?_)
    obtain ⟨ha, hb, hne⟩ := hab
    have ha' : a < n := by simpa using ha
    have hb' : b < n := by simpa using hb
    exact hne (hi a b ha' hb' (ix_inj xs hc.2 _ _ (hf a ha') (hf b hb') e))
theorem perm_deck (f : Nat → Nat) (xs : List Int) (h : deckB xs = true) (hf : ∀ p, p < 52 → f p < 52) (hi : ∀ p q, p < 52 → q < 52 → f p = f q → p = q) : deckB (perm f xs) = true := by
  obtain ⟨hl, hc⟩ := (deck_iff xs).1 h
  rw [deck_iff]
  exact ⟨perm_length f xs, permN_cards f 52 xs hc (fun p hp => by rw [hl]; exact hf p hp) hi⟩
theorem perm_perm (f g : Nat → Nat) (xs : List Int) (hg : ∀ p, p < 52 → g p < 52) : perm g (perm f xs) = perm (fun p => f (g p)) xs := by
  apply ix_ext (by rw [perm_length, perm_length])
  intro p hp
  rw [perm_length] at hp
  rw [perm_ix _ _ p hp, perm_ix _ _ _ (hg p hp), perm_ix _ _ p hp]
theorem perm_id (f : Nat → Nat) (xs : List Int) (hl : xs.length = 52) (hf : ∀ p, p < 52 → f p = p) : perm f xs = xs := by
  apply ix_ext (by rw [perm_length, hl])
  intro p hp
  rw [perm_length] at hp
  rw [perm_ix _ _ p hp, hf p hp]

/-! Cuts. -/
def cutF (n p : Nat) : Nat := (p + n) % 52
def rifF (p : Nat) : Nat := p / 2 + p % 2 * 26
def unrF (p : Nat) : Nat := p % 26 * 2 + p / 26
theorem cutF_lt (n p : Nat) : cutF n p < 52 := by unfold cutF; omega
theorem rifF_lt (p : Nat) (h : p < 52) : rifF p < 52 := by unfold rifF; omega
theorem unrF_lt (p : Nat) (h : p < 52) : unrF p < 52 := by unfold unrF; omega
theorem cut_deck (n : Nat) (xs : List Int) (h : deckB xs = true) (_hn : n ≤ 52) : deckB (perm (cutF n) xs) = true :=
  perm_deck _ xs h (fun p _ => cutF_lt n p) (fun p q hp hq e => by unfold cutF at e; omega)
theorem rif_deck (xs : List Int) (h : deckB xs = true) : deckB (perm rifF xs) = true :=
  perm_deck _ xs h rifF_lt (fun p q hp hq e => by unfold rifF at e; omega)
theorem unr_deck (xs : List Int) (h : deckB xs = true) : deckB (perm unrF xs) = true :=
  perm_deck _ xs h unrF_lt (fun p q hp hq e => by unfold unrF at e; omega)
theorem cut_back (n : Nat) (xs : List Int) (hl : xs.length = 52) (hn : n ≤ 52) : perm (cutF (52 - n)) (perm (cutF n) xs) = xs := by
  rw [perm_perm _ _ _ (fun p _ => cutF_lt _ p)]
  exact perm_id _ xs hl (fun p hp => by unfold cutF; omega)
theorem rif_back (xs : List Int) (hl : xs.length = 52) : perm unrF (perm rifF xs) = xs := by
  rw [perm_perm _ _ _ unrF_lt]
  exact perm_id _ xs hl (fun p hp => by unfold unrF rifF; omega)
/-- k riffles. -/
def riffles : Nat → List Int → List Int
  | 0, xs => xs
  | k + 1, xs => perm rifF (riffles k xs)
def rifK : Nat → Nat → Nat
  | 0, p => p
  | k + 1, p => rifK k (rifF p)
theorem rifK_lt : ∀ (k p : Nat), p < 52 → rifK k p < 52
  | 0, _, h => h
  | k + 1, p, h => rifK_lt k _ (rifF_lt p h)
theorem riffles_perm : ∀ (k : Nat) (xs : List Int), xs.length = 52 → riffles k xs = perm (rifK k) xs
  | 0, xs, h => (perm_id _ xs h (fun _ _ => rfl)).symm
  | k + 1, xs, h => by
    rw [riffles, riffles_perm k xs h, perm_perm _ _ _ rifF_lt]
    rfl
theorem rif8 : ∀ p : Fin 52, rifK 8 p.val = p.val := by decide +kernel
theorem riffles8 (xs : List Int) (hl : xs.length = 52) : riffles 8 xs = xs := by
  rw [riffles_perm 8 xs hl]
  exact perm_id _ xs hl (fun p hp => rif8 ⟨p, hp⟩)
theorem riffles_deck : ∀ (k : Nat) (xs : List Int), deckB xs = true → deckB (riffles k xs) = true
  | 0, _, h => h
  | k + 1, xs, h => rif_deck _ (riffles_deck k xs h)

/-! The model's forms. -/
theorem cut_spec (n : Nat) (xs : List Int) (hl : xs.length = 52) (hn : n ≤ 52) : xs.drop n ++ xs.take n = perm (cutF n) xs := by
  apply ix_ext
  · rw [perm_length, List.length_append, List.length_drop, List.length_take]; omega
  · intro i hi
    rw [List.length_append, List.length_drop, List.length_take] at hi
    rw [perm_ix _ _ i (by omega)]
    by_cases h : i < 52 - n
    · rw [ix_append_left _ _ _ (by rw [List.length_drop]; omega), ix_drop]
      congr 1; unfold cutF; omega
    · obtain ⟨j, rfl⟩ : ∃ j, i = (xs.drop n).length + j := ⟨i - (52 - n), by rw [List.length_drop]; omega⟩
      rw [List.length_drop] at hi
      rw [ix_append_right _ _ j (by rw [List.length_take]; omega), ix_take _ _ _ (by omega), List.length_drop]
      congr 1; unfold cutF; omega
theorem rif_two (k : Nat) (xs : List Int) (hk : k < 26) : (perm rifF xs).take (2 * (k + 1)) = (perm rifF xs).take (2 * k) ++ [ix xs k, ix xs (26 + k)] := by
  have e : 2 * (k + 1) = 2 * k + 1 + 1 := by omega
  have hl := perm_length rifF xs
  rw [e, take_snocI _ _ (by omega), take_snocI _ _ (by omega), List.append_assoc]
  rw [← ix_eq _ (2 * k) (by omega), ← ix_eq _ (2 * k + 1) (by omega), perm_ix _ _ _ (by omega), perm_ix _ _ _ (by omega)]
  have e1 : rifF (2 * k) = k := by unfold rifF; omega
  have e2 : rifF (2 * k + 1) = 26 + k := by unfold rifF; omega
  rw [e1, e2]
  rfl
theorem rif_all (xs : List Int) : (perm rifF xs).take (2 * 26) = perm rifF xs := List.take_of_length_le (by rw [perm_length]; omega)
/-- The cards for the upper half, those for the lower half. -/
def evens (k : Nat) (xs : List Int) : List Int := permN (fun p => 2 * p) k xs
def odds (k : Nat) (xs : List Int) : List Int := permN (fun p => 2 * p + 1) k xs
theorem halves (xs : List Int) : evens 26 xs ++ odds 26 xs = perm unrF xs := by
  unfold evens odds
  apply ix_ext
  · rw [perm_length, List.length_append, permN_length, permN_length]
  · intro i hi
    rw [List.length_append, permN_length, permN_length] at hi
    rw [perm_ix _ _ i (by omega)]
    by_cases h : i < 26
    · rw [ix_append_left _ _ _ (by rw [permN_length]; exact h), permN_ix _ _ _ _ h]
      congr 1; unfold unrF; omega
    · obtain ⟨j, rfl⟩ : ∃ j, i = (permN (fun p => 2 * p) 26 xs).length + j := ⟨i - 26, by rw [permN_length]; omega⟩
      rw [permN_length] at hi
      rw [ix_append_right _ _ j (by rw [permN_length]; omega), permN_ix _ _ _ _ (by omega), permN_length]
      congr 1; unfold unrF; omega

/-! Shuffles. -/
def nextS (s : Int) : Int := s * 48271 % 2147483647
theorem nextS_bd (s : Int) : 0 ≤ nextS s ∧ nextS s < 2147483647 := by unfold nextS; omega
/-- Two numbers change places. -/
def swapL (xs : List Int) (i k : Nat) : List Int := (xs.set i (ix xs k)).set k (ix xs i)
theorem swap_len (xs : List Int) (i k : Nat) : (swapL xs i k).length = xs.length := by simp [swapL]
theorem swap_perm (xs : List Int) (i k : Nat) (hl : xs.length = 52) (hi : i < 52) (hk : k < 52) : swapL xs i k = perm (fun p => if p = k then i else if p = i then k else p) xs := by
  unfold swapL
  apply ix_ext
  · rw [perm_length]; simpa using hl
  · intro p hp
    have hp' : p < 52 := by simpa [hl] using hp
    rw [perm_ix _ _ p hp']
    by_cases h : p = k
    · subst h
      rw [ix_set_same _ _ _ (by simpa [hl] using hp'), if_pos rfl]
    · rw [ix_set_other _ _ _ _ (fun e => h e.symm), if_neg h]
      by_cases h2 : p = i
      · subst h2
        rw [ix_set_same _ _ _ (by omega), if_pos rfl]
      · rw [ix_set_other _ _ _ _ (fun e => h2 e.symm), if_neg h2]
theorem swap_deck (xs : List Int) (i k : Nat) (h : deckB xs = true) (hi : i < 52) (hk : k < 52) : deckB (swapL xs i k) = true := by
  obtain ⟨hl, _⟩ := (deck_iff xs).1 h
  rw [swap_perm xs i k hl hi hk]
  exact perm_deck _ xs h (fun p hp => by split <;> (try split) <;> omega) (fun p q hp hq e => by
    split at e <;> split at e <;> (try split at e) <;> (try split at e) <;> omega)
/-- The shuffle from the index i down, with the seed s before it. -/
def shuf : Nat → Int → List Int → List Int
  | 0, _, xs => xs
  | i + 1, s, xs => shuf i (nextS s) (swapL xs (i + 1) (nextS s % ((i : Int) + 2)).toNat)
def sorted52 : List Int := (List.range 52).map (fun i : Nat => (i : Int))
theorem sorted_deck : deckB sorted52 = true := by decide +kernel
theorem shuf_deck : ∀ (i : Nat) (s : Int) (xs : List Int), i < 52 → deckB xs = true → deckB (shuf i s xs) = true
  | 0, _, _, _, h => h
  | i + 1, s, xs, hi, h => by
    have h1 := Int.emod_nonneg (nextS s) (b := (i : Int) + 2) (by omega)
    have h2 := Int.emod_lt_of_pos (nextS s) (b := (i : Int) + 2) (by omega)
    exact shuf_deck i _ _ (by omega) (swap_deck _ _ _ h hi (by omega))
def shuffled (s : Int) : List Int := shuf 51 s sorted52
theorem shuffled_deck (s : Int) : deckB (shuffled s) = true := shuf_deck 51 s _ (by omega) sorted_deck

/-! Places. -/
/-- The first place of a number from k on. -/
def placeOf (xs : List Int) (x : Int) : Nat := xs.idxOf x
theorem place_lt (xs : List Int) (x : Int) (h : x ∈ xs) : placeOf xs x < xs.length := List.idxOf_lt_length_of_mem h
theorem place_ix (xs : List Int) (x : Int) (h : x ∈ xs) : ix xs (placeOf xs x) = x := by
  have hl := place_lt xs x h
  rw [ix_eq _ _ hl]
  exact List.getElem_idxOf hl
theorem place_first (xs : List Int) (x : Int) (k : Nat) (hk : k < placeOf xs x) : ix xs k ≠ x := by
  intro e
  have hkl : k < xs.length := Nat.lt_of_lt_of_le hk List.idxOf_le_length
  rw [ix_eq xs k hkl] at e
  have := List.not_of_lt_findIdx (p := (· == x)) hk
  simp [e] at this

/-! Hands. -/
/-- The h-th of several hands. -/
def dealt (hands n h : Nat) (xs : List Int) : List Int := permN (fun k => k * hands + h) n xs
end Go.Proofs.Ytlcimofhpphefaa

/-! Rows of the call's own wherever they begin in their block, whatever the block's type: how they read. -/
namespace Go.Proofs.Ytlcimofhpphefaa
open Go.RowKit
set_option linter.unusedVariables false

/-- A row of the call's own: its block does not lie below lo. -/
def Row (w : World) (lo : Nat) (A : Option Addr) (xs : List Int) : Prop :=
  (∀ a, A = some a → lo ≤ a.block ∧ a.block < w.heap.size) ∧
  (0 < xs.length → ∃ g off, A = some ⟨g, off, none⟩ ∧ ∀ i, i < xs.length → w.cell? ⟨g, off + i, none⟩ = some (.int .i64 (nth xs i)) ∧ w.frozen? ⟨g, off + i, none⟩ = false)
theorem Row.rd {w : World} {lo : Nat} {A : Option Addr} {xs : List Int} (h : Row w lo A xs) : Rd w A xs := fun h0 => by
  obtain ⟨g, off, e, hc⟩ := h.2 h0
  exact ⟨g, off, e, fun i hi => (hc i hi).1⟩
theorem Row.less {w : World} {lo lo' : Nat} {A : Option Addr} {xs : List Int} (h : Row w lo A xs) (hl : lo' ≤ lo) : Row w lo' A xs :=
  ⟨fun a e => ⟨Nat.le_trans hl (h.1 a e).1, (h.1 a e).2⟩, h.2⟩
theorem Row.grown {w w' : World} {lo : Nat} {A : Option Addr} {xs : List Int} {row : Option Nat} (h : Row w lo A xs) (hg : w.grownBy w' row) (hne : ∀ a, A = some a → some a.block ≠ row) : Row w' lo A xs := by
  refine ⟨fun a e => ⟨(h.1 a e).1, Nat.lt_of_lt_of_le (h.1 a e).2 hg.size⟩, fun h0 => ?_⟩
  obtain ⟨g, off, rfl, hc⟩ := h.2 h0
  have hb := hg.block g (h.1 _ rfl).2 (hne _ rfl)
  exact ⟨g, off, rfl, fun i hi => ⟨(World.cell?_of_block (a := ⟨g, off + i, none⟩) hb).trans (hc i hi).1, (World.frozen?_of_block (a := ⟨g, off + i, none⟩) hb).trans (hc i hi).2⟩⟩
theorem Row.below {w w' : World} {lo : Nat} {A : Option Addr} {xs : List Int} (h : Row w lo A xs) (hb : Below w.heap.size w w') : Row w' lo A xs :=
  Row.grown (row := none) h ⟨hb.os, hb.tape, hb.output, hb.size, fun k hk _ => hb.block k hk⟩ (fun _ _ => by simp)
theorem Row.nil (w : World) (lo : Nat) : Row w lo none [] := ⟨(fun a e => by cases e), (fun h => by simp at h)⟩
theorem Row.of_own {w : World} {lo : Nat} {A : Option Addr} {c : Nat} {xs : List Int} (h : Own w lo (.slice A xs.length c) xs) : Row w lo A xs := by
  refine ⟨fun a e => h.lo_le a e, fun h0 => ?_⟩
  rcases h.2 with ⟨_, hn⟩ | ⟨g, cap, cur, hv, _⟩
  · omega
  · injection hv with hA _ hc
    subst hA hc
    refine ⟨g, 0, rfl, fun i hi => ?_⟩
    rw [Nat.zero_add]
    exact ⟨by rw [World.ownsRow.cellAt h i (by omega), ints_get xs i hi], World.ownsRow.frozenAt h i⟩
theorem own_cap {w : World} {lo : Nat} {A : Option Addr} {c : Nat} {xs : List Int} (h : Own w lo (.slice A xs.length c) xs) : xs.length ≤ c := by
  rcases h.2 with ⟨e, hn⟩ | ⟨g, cap, cur, hv, _, _, hnc, _⟩
  · omega
  · injection hv with _ _ hc
    omega
/-- A row's end. -/
theorem Row.drop {w : World} {lo g off : Nat} {xs : List Int} (h : Row w lo (some ⟨g, off, none⟩) xs) (n : Nat) : Row w lo (some ⟨g, off + n, none⟩) (xs.drop n) := by
  refine ⟨fun a e => ?_, fun h0 => ⟨g, off + n, rfl, fun i hi => ?_⟩⟩
  · obtain rfl := Option.some.inj e
    exact h.1 ⟨g, off, none⟩ rfl
  · rw [List.length_drop] at hi
    obtain ⟨g', off', e, hc⟩ := h.2 (by omega)
    injection e with e
    injection e with e1 e2
    subst e1 e2
    have := hc (n + i) (by omega)
    rw [← Nat.add_assoc] at this
    rw [show nth (xs.drop n) i = nth xs (n + i) from ix_drop xs n i]
    exact this
theorem Row.at_ {w w' : World} {lo : Nat} {A : Option Addr} {xs : List Int} (h : Row w lo A xs) (hb : Below w.heap.size w w') (k : Nat) (hk : k < xs.length) : ∃ b off, A = some ⟨b, off, none⟩ ∧ w'.cell? ⟨b, off + k, none⟩ = some (.int .i64 (nth xs k)) := h.rd.at_ hb k hk
/-- What a call leaves that returns a list of the call's own. -/
def NewR (xs : List Int) (w : World) (e : Ending) (w' : World) : Prop := ∃ A c, e = .returned (.slice A xs.length c) ∧ Row w' w.heap.size A xs ∧ Below w.heap.size w w'
/-- The same with a code beside it. -/
def NewRC (xs : List Int) (code : Int) (w : World) (e : Ending) (w' : World) : Prop := ∃ A c, e = .returned (.tuple #[.slice A xs.length c, .int .i64 code]) ∧ Row w' w.heap.size A xs ∧ Below w.heap.size w w'
theorem newR_of {xs : List Int} {w : World} {e : Ending} {w' : World} (h : NewL xs w e w') : NewR xs w e w' := by
  obtain ⟨A, c, he, ho, hb⟩ := h
  exact ⟨A, c, he, Row.of_own ho, hb⟩
theorem newRC_of {xs : List Int} {code : Int} {w : World} {e : Ending} {w' : World} (h : NewLC xs code w e w') : NewRC xs code w e w' := by
  obtain ⟨A, c, he, ho, hb⟩ := h
  exact ⟨A, c, he, Row.of_own ho, hb⟩
end Go.Proofs.Ytlcimofhpphefaa

/-! Lists of counts: how many cards have each key. -/
namespace Go.Proofs.Ytlcimofhpphefaa
open Go.RowKit
set_option linter.unusedVariables false

/-- How many cards have each key. -/
def cntL (n : Nat) (key : Int → Int) (xs : List Int) : List Int := (List.range n).map (fun j : Nat => (cnt (fun x => key x == (j : Int)) xs : Int))
theorem cntL_length (n : Nat) (key : Int → Int) (xs : List Int) : (cntL n key xs).length = n := by simp [cntL]
theorem cntL_nth (n : Nat) (key : Int → Int) (xs : List Int) (j : Nat) (h : j < n) : nth (cntL n key xs) j = (cnt (fun x => key x == (j : Int)) xs : Int) := by
  rw [nth_eq _ _ (by rw [cntL_length]; exact h)]; simp [cntL]
theorem cnt_congr {p q : Int → Bool} {xs : List Int} (h : ∀ x ∈ xs, p x = q x) : cnt p xs = cnt q xs := by unfold cnt; rw [List.filter_congr h]

end Go.Proofs.Ytlcimofhpphefaa

/-! The model's counts of ranks and of suits. -/
namespace Go.Proofs.Ytlcimofhpphefaa
open Go.RowKit
set_option linter.unusedVariables false

/-- A counting loop's step. -/
theorem cntL_set (n : Nat) (key : Int → Int) (xs : List Int) (x : Int) (j : Nat) (hj : j < n) (e : key x = (j : Int)) : (cntL n key xs).set j ((cnt (fun y => key y == (j : Int)) xs : Int) + 1) = cntL n key (xs ++ [x]) := by
  apply List.ext_getElem?
  intro i
  rw [List.getElem?_set, cntL_length]
  by_cases hi : i < n
  · have a : (cntL n key xs)[i]? = some (cnt (fun y => key y == (i : Int)) xs : Int) := by simp [cntL, hi]
    have b : (cntL n key (xs ++ [x]))[i]? = some (cnt (fun y => key y == (i : Int)) (xs ++ [x]) : Int) := by simp [cntL, hi]
    rw [a, b, cnt_snoc]
    by_cases h : j = i
    · subst h
      rw [if_pos rfl, if_pos hi, if_pos (by simp [e])]; rfl
    · rw [if_neg h, if_neg (by simp; omega)]; rfl
  · have a : (cntL n key xs)[i]? = none := by rw [List.getElem?_eq_none]; rw [cntL_length]; omega
    have b : (cntL n key (xs ++ [x]))[i]? = none := by rw [List.getElem?_eq_none]; rw [cntL_length]; omega
    rw [a, b, if_neg (by omega)]
theorem cntL_nil (n : Nat) (key : Int → Int) : cntL n key [] = List.replicate n 0 := by
  rw [List.eq_replicate_iff]
  exact ⟨cntL_length n key [], fun y hy => by simp [cntL, cnt_nil] at hy; exact hy.2.symm⟩
/-- The counting loop's state. -/
def Counted (w : World) (n : Nat) (key : Int → Int) (xs : List Int) (wr : World) : Prop :=
  wr.ownsRow w.heap.size 2 1 (.slice (some ⟨w.heap.size, 0, none⟩) n n) n (ints (cntL n key xs)) ∧ Below w.heap.size w wr
theorem counted_step {w wr : World} {n : Nat} {key : Int → Int} {xs : List Int} {x : Int} (h : Counted w n key xs wr) (j : Nat) (hj : j < n) (e : key x = (j : Int)) :
    Counted w n key (xs ++ [x]) (wr.setCell ⟨w.heap.size, j, none⟩ (.int .i64 ((cnt (fun y => key y == (j : Int)) xs : Int) + 1))) := by
  refine ⟨?_, h.2.setCell (Nat.le_refl _) _⟩
  have := (h.1.stored j (.int .i64 ((cnt (fun y => key y == (j : Int)) xs : Int) + 1))).1
  rwa [ints_set, cntL_set n key xs x j hj e] at this
theorem counted_cell {w wr : World} {n : Nat} {key : Int → Int} {xs : List Int} (h : Counted w n key xs wr) (j : Nat) (hj : j < n) :
    wr.cell? ⟨w.heap.size, j, none⟩ = some (.int .i64 (cnt (fun y => key y == (j : Int)) xs : Int)) ∧ wr.frozen? ⟨w.heap.size, j, none⟩ = false := by
  refine ⟨?_, h.1.frozenAt j⟩
  rw [h.1.cellAt j (by omega), ints_get _ _ (by rw [cntL_length]; exact hj), cntL_nth n key xs j hj]

end Go.Proofs.Ytlcimofhpphefaa

/-! The set of a list of cards: the program's asSet, setOf and AreCards. -/
namespace Go.Proofs.Ytlcimofhpphefaa
open Go.RowKit
set_option linter.unusedVariables false

theorem wraps_u64 (n : Int) (h₀ : 0 ≤ n) (h₁ : n < 2 ^ 64) : IntKind.u64.wrap n = n := by rw [IntKind.wrap_u64]; omega
theorem u64_and (a b : Nat) (ha : a < 2 ^ 64) (hb : b < 2 ^ 64) : bits .and .u64 (a : Int) (b : Int) = ((a &&& b : Nat) : Int) := (bits_nat .u64 64 (by decide) wraps_u64 a b ha hb).1
theorem u64_or (a b : Nat) (ha : a < 2 ^ 64) (hb : b < 2 ^ 64) : bits .or .u64 (a : Int) (b : Int) = ((a ||| b : Nat) : Int) := (bits_nat .u64 64 (by decide) wraps_u64 a b ha hb).2
theorem pow_lt (n : Nat) (h : n < 52) : 2 ^ n < 2 ^ 52 := Nat.pow_lt_pow_right (by omega) h
/-- A card's bit. -/
def bitOf (x : Int) : Nat := 2 ^ x.toNat
theorem bitOf_lt (x : Int) (h0 : 0 ≤ x) (h1 : x < 52) : bitOf x < 2 ^ 52 := pow_lt _ (by omega)
theorem bitOf_shift (x : Int) (h0 : 0 ≤ x) (h1 : x < 52) : IntKind.u64.wrap (2 ^ x.toNat) = ((bitOf x : Nat) : Int) := by
  have h := bitOf_lt x h0 h1
  have e : (2 : Int) ^ x.toNat = ((bitOf x : Nat) : Int) := by unfold bitOf; simp
  rw [e]
  exact wraps_u64 _ (by omega) (by omega)

/-- The set and whether it is one, as a result. -/
def setI (xs : List Int) : Int := if cardsB xs = true then (maskOf xs : Int) else 0
abbrev setV (xs : List Int) : Value := .tuple #[.int .u64 (setI xs), .bool (cardsB xs)]
theorem set_ret {xs : List Int} {n : Int} {b : Bool} (hb : cardsB xs = b) (hn : setI xs = n) : Ending.returned (.tuple #[.int .u64 n, .bool b]) = .returned (setV xs) := by rw [← hb, ← hn]
theorem setI_no {xs : List Int} (h : cardsB xs = false) : setI xs = 0 := by unfold setI; rw [h]; rfl
theorem setI_yes {xs : List Int} (h : cardsB xs = true) : setI xs = (maskOf xs : Int) := by unfold setI; rw [if_pos h]
/-- Whether the next card lies in the set: its bit. -/
theorem mask_and (xs : List Int) (x : Int) (h : cardsB xs = true) (h0 : 0 ≤ x) (h1 : x < 52) : bits .and .u64 (maskOf xs : Nat) (bitOf x : Nat) = ((maskOf xs &&& bitOf x : Nat) : Int) ∧ (maskOf xs &&& bitOf x = 0 ↔ x ∉ xs) := by
  have hm := mask_lt xs h
  have hb := bitOf_lt x h0 h1
  refine ⟨u64_and _ _ (by omega) (by omega), ?_⟩
  have k := mask_mem xs x h h0
  constructor
  · intro e hx
    have t := k.2 hx
    have : (maskOf xs &&& bitOf x).testBit x.toNat = true := by rw [Nat.testBit_and, t]; unfold bitOf; rw [testBit_one_shift]; simp
    rw [e] at this
    simp at this
  · intro hx
    apply Nat.eq_of_testBit_eq
    intro i
    rw [Nat.testBit_and, Nat.zero_testBit]
    unfold bitOf
    rw [testBit_one_shift]
    by_cases e : x.toNat = i
    · subst e
      have : (maskOf xs).testBit x.toNat = false := by
        by_cases c : (maskOf xs).testBit x.toNat = true
        · exact absurd (k.1 c) hx
        · simpa using c
      rw [this]; rfl
    · simp [e]
theorem mask_next (xs : List Int) (k : Nat) (hk : k < xs.length) (h : cardsB (xs.take k) = true) (h0 : 0 ≤ nth xs k) (h1 : nth xs k < 52) :
    bits .or .u64 (maskOf (xs.take k) : Nat) (bitOf (nth xs k) : Nat) = ((maskOf (xs.take (k + 1)) : Nat) : Int) := by
  have hm := mask_lt (xs.take k) h
  have hb := bitOf_lt _ h0 h1
  rw [u64_or _ _ (by omega) (by omega), take_nth xs k hk, mask_snoc]; rfl

/-- ErrInvalid where the list is none of cards. -/
def codeC (xs : List Int) : Int := if cardsB xs = true then 0 else 1
end Go.Proofs.Ytlcimofhpphefaa

/-! The model's AreCards: a row of marks. -/
namespace Go.Proofs.Ytlcimofhpphefaa
open Go.RowKit
set_option linter.unusedVariables false

/-- The marks of the cards that have been met. -/
def seenOf (xs : List Int) : List Value := (List.range 52).map (fun i : Nat => Value.bool (xs.contains (i : Int)))
theorem seen_length (xs : List Int) : (seenOf xs).length = 52 := by simp [seenOf]
theorem seen_get (xs : List Int) (i : Nat) (h : i < 52) : (seenOf xs)[i]? = some (.bool (xs.contains (i : Int))) := by simp [seenOf, h]
theorem seen_nil : seenOf [] = List.replicate 52 (Value.bool false) := by
  rw [List.eq_replicate_iff]
  exact ⟨seen_length [], fun b hb => by simp [seenOf] at hb; exact hb.2.symm⟩
theorem seen_set (xs : List Int) (x : Int) (h0 : 0 ≤ x) (h1 : x < 52) : (seenOf xs).set x.toNat (.bool true) = seenOf (xs ++ [x]) := by
  apply List.ext_getElem?
  intro i
  rw [List.getElem?_set, seen_length]
  by_cases hi : i < 52
  · rw [seen_get _ i hi, seen_get _ i hi]
    by_cases e : x.toNat = i
    · have : x = (i : Int) := by omega
      rw [if_pos e, if_pos (by omega), this]; simp
    · have : ¬ (i : Int) = x := by omega
      rw [if_neg e]; simp [this]
  · have a : (seenOf xs)[i]? = none := by rw [List.getElem?_eq_none]; rw [seen_length]; omega
    have b : (seenOf (xs ++ [x]))[i]? = none := by rw [List.getElem?_eq_none]; rw [seen_length]; omega
    rw [a, b, if_neg (by omega)]
theorem infoBool : (Try.prog.info? 4).map (fun i => (i.zero, i.size, i.bytes)) = some (some (.bool false), 1, 1) := by kernel_rfl
/-- The loop's state. -/
def Seen (w : World) (xs : List Int) (wr : World) : Prop :=
  wr.ownsRow w.heap.size 4 1 (.slice (some ⟨w.heap.size, 0, none⟩) 52 52) 52 (seenOf xs) ∧ Below w.heap.size w wr
theorem seen_step {w wr : World} {xs : List Int} {x : Int} (h : Seen w xs wr) (h0 : 0 ≤ x) (h1 : x < 52) : Seen w (xs ++ [x]) (wr.setCell ⟨w.heap.size, x.toNat, none⟩ (.bool true)) := by
  refine ⟨?_, h.2.setCell (Nat.le_refl _) _⟩
  have := (h.1.stored x.toNat (.bool true)).1
  rwa [seen_set xs x h0 h1] at this
theorem seen_cell {w wr : World} {xs : List Int} {x : Int} (h : Seen w xs wr) (h0 : 0 ≤ x) (h1 : x < 52) :
    wr.cell? ⟨w.heap.size, x.toNat, none⟩ = some (.bool (xs.contains x)) ∧ wr.frozen? ⟨w.heap.size, x.toNat, none⟩ = false := by
  refine ⟨?_, h.1.frozenAt x.toNat⟩
  rw [h.1.cellAt x.toNat (by omega), seen_get _ _ (by omega)]
  have : ((x.toNat : Nat) : Int) = x := by omega
  rw [this]

end Go.Proofs.Ytlcimofhpphefaa

/-! Blocks of cells, known whole: arrays and structs of the program's own. -/
namespace Go.Proofs.Ytlcimofhpphefaa
open Go.RowKit
set_option linter.unusedVariables false

/-- Block g holds these cells, as a variable of type t. -/
def Blk (w : World) (g : Nat) (t : TypeId) (vs : List Value) : Prop := w.heap[g]? = some (.cells vs.toArray t (0, 0))
theorem Blk.lt {w : World} {g : Nat} {t : TypeId} {vs : List Value} (h : Blk w g t vs) : g < w.heap.size := (Array.getElem?_eq_some_iff.1 h).1
theorem Blk.range {w : World} {g : Nat} {t : TypeId} {vs : List Value} (h : Blk w g t vs) : w.rangeAt g 0 vs := fun j v hv => by
  rw [Nat.zero_add, cell_of_row w g j _ _ _ h]; simpa using hv
theorem Blk.cell {w : World} {g : Nat} {t : TypeId} {vs : List Value} (h : Blk w g t vs) (i : Nat) (v : Value) (hv : vs[i]? = some v) : w.cell? ⟨g, i, none⟩ = some v ∧ w.frozen? ⟨g, i, none⟩ = false := by
  refine ⟨?_, frozen_of_row w g i _ _ h⟩
  rw [cell_of_row w g i _ _ _ h]; simpa using hv
theorem Blk.below {w w' : World} {g : Nat} {t : TypeId} {vs : List Value} (h : Blk w g t vs) (hb : Below w.heap.size w w') : Blk w' g t vs := (hb.block g h.lt).trans h
theorem Blk.grown {w w' : World} {g : Nat} {t : TypeId} {vs : List Value} {row : Option Nat} (h : Blk w g t vs) (hg : w.grownBy w' row) (hne : some g ≠ row) : Blk w' g t vs := (hg.block g h.lt hne).trans h
theorem blk_new (w : World) (t : TypeId) (vs : List Value) : Blk (w.alloc (.cells vs.toArray t)) w.heap.size t vs := heap_alloc_new w _
theorem blk_set {w : World} {g : Nat} {t : TypeId} {vs : List Value} (h : Blk w g t vs) (i : Nat) (x : Value) : Blk (w.setCell ⟨g, i, none⟩ x) g t (vs.set i x) ∧ w.grownBy (w.setCell ⟨g, i, none⟩ x) (some g) := by
  constructor
  · unfold Blk at h ⊢
    rw [heap_setCell_same w g i _ _ _ h]
    simp
  · exact ⟨rfl, rfl, rfl, by simp [World.setCell], fun k hk hne => Below.heap_setCell w ⟨g, i, none⟩ _ k (fun e => hne (by rw [e]))⟩
theorem Blk.int {w : World} {g : Nat} {t : TypeId} {xs : List Int} (h : Blk w g t (ints xs)) (i : Nat) (hi : i < xs.length) : w.cell? ⟨g, i, none⟩ = some (.int .i64 (nth xs i)) ∧ w.frozen? ⟨g, i, none⟩ = false :=
  h.cell i _ (ints_get xs i hi)
theorem blk_setI {w : World} {g : Nat} {t : TypeId} {xs : List Int} (h : Blk w g t (ints xs)) (i : Nat) (x : Int) : Blk (w.setCell ⟨g, i, none⟩ (.int .i64 x)) g t (ints (xs.set i x)) ∧ w.grownBy (w.setCell ⟨g, i, none⟩ (.int .i64 x)) (some g) := by
  rw [← ints_set]; exact blk_set h i _
theorem bl_blk {a w w' : World} {g : Nat} (hb : Below a.heap.size a w) (hg : w.grownBy w' (some g)) (hl : a.heap.size ≤ g) : Below a.heap.size a w' :=
  hb.grown hg hb.size (fun j hj => by injection hj with hj; omega)
/-- A whole variable is loaded. -/
theorem wpList_load_blk {ops : Array Oper} {rest : List Oper} {o : Oper} {a : Act} {w : World} {Q : Exit → Act → World → Prop} (t : TypeId) (d : TypeDesc) (n : Nat) (hgd : o.guard = none) (x : Operand) (ho : o.op = .load t x)
    (hu : Try.prog.underlying t = some d) (hd : d.isRow = true) (hi : (Try.prog.info? t).map (·.size) = some n)
    (b off : Nat) (hx : a.eval x = .pointer (some ⟨b, off, none⟩)) (vs : List Value) (hl : vs.length = n) (hc : w.rangeAt b off vs)
    (h : wpList Try.prog ops Q rest (a.put o.dst (.agg vs.toArray)) w) : wpList Try.prog ops Q (o :: rest) a w :=
  wpList_load_mid hgd t x ho b off hx vs d hc hu hd (by rw [hl]; exact hi) h
/-- A whole variable is stored. -/
theorem wpList_store_blk {ops : Array Oper} {rest : List Oper} {o : Oper} {a : Act} {w : World} {Q : Exit → Act → World → Prop} (t : TypeId) (n : Nat) (hgd : o.guard = none) (x y : Operand) (ho : o.op = .store t x y)
    (hi : (Try.prog.info? t).map (·.size) = some n)
    (g : Nat) (hx : a.eval x = .pointer (some ⟨g, 0, none⟩)) (vs : List Value) (hy : a.eval y = .agg vs.toArray) (hl : vs.length = n) (h1 : ∀ v ∈ vs, v.oneCell' = true) (old : Array Value) (hg : w.heap[g]? = some (.cells old t (0, 0))) (hs : old.size = n)
    (h : ∀ w', Blk w' g t vs → w.grownBy w' (some g) → wpList Try.prog ops Q rest (a.put o.dst undef) w') : wpList Try.prog ops Q (o :: rest) a w :=
  wpList_plain hgd fun _ hK => by
    have hr := run_storeVar_row (P := Try.prog) w g t t old vs.toArray hg (by rw [List.size_toArray, hl]; exact hi) (by simp [hl, hs]) (all_oneCell_toArray h1)
    unfold Oper.wp execOp
    simp only [ho, hx, hy, Instr.storeAt, Instr.sureAddr, Sem.run_bind, Sem.run_pure, Result.andThen_ok, hr]
    exact hK _ _ (h _ (setRow_heap w g old _ _ _ hg) ⟨rfl, rfl, rfl, by simp, fun k hk hne => setRow_other w g k _ (fun e => hne (by rw [e]))⟩)
theorem ints_one (xs : List Int) : ∀ v ∈ ints xs, v.oneCell' = true := fun v hv => by
  unfold ints at hv; obtain ⟨z, _, rfl⟩ := List.mem_map.1 hv; rfl
end Go.Proofs.Ytlcimofhpphefaa

/-! A block known whole as a row; a slice of five made. -/
namespace Go.Proofs.Ytlcimofhpphefaa
open Go.RowKit
set_option linter.unusedVariables false

theorem row_blk {w : World} {g lo : Nat} {t : TypeId} {xs : List Int} (h : Blk w g t (ints xs)) (hl : lo ≤ g) : Row w lo (some ⟨g, 0, none⟩) xs := by
  refine ⟨fun a e => ?_, fun h0 => ⟨g, 0, rfl, fun i hi => by rw [Nat.zero_add]; exact h.int i hi⟩⟩
  obtain rfl := Option.some.inj e
  exact ⟨hl, h.lt⟩
theorem run_make5 (t e : TypeId) (i0 : TypeInfo) (hu : Try.prog.underlying t = some (.slice e)) (hi : Try.prog.info? e = some i0) (hz0 : i0.zero = some (.int .i64 0)) (hz1 : i0.size = 1) (hz2 : i0.bytes = 8) (W : World) :
    (Instr.makeSlice t (.int .i64 5) (.int .i64 5)).run Try.prog W = .ok (.slice (some ⟨W.heap.size, 0, none⟩) 5 5) (W.alloc (.cells #[.int .i64 0, .int .i64 0, .int .i64 0, .int .i64 0, .int .i64 0] e)) := by
  have h := run_makeSlice (P := Try.prog) W t e i0 (.int .i64 0) hu hi hz0 .i64 .i64 5 5 (by omega) (by omega) (by rw [hz1]; decide) (by rw [hz2]; omega) (by omega)
  rw [hz1] at h
  have em : madeCells (Value.int .i64 0).cells (Int.toNat 5 * 1) = #[.int .i64 0, .int .i64 0, .int .i64 0, .int .i64 0, .int .i64 0] := Array.toList_inj.1 (by
    show (madeCells #[Value.int .i64 0] 5).toList = _
    rw [toList_madeCells_one]; rfl)
  rw [em] at h
  exact h
end Go.Proofs.Ytlcimofhpphefaa

/-! The tests of a list of cards of some size, and the code that goes with them. -/
namespace Go.Proofs.Ytlcimofhpphefaa
open Go.RowKit
set_option linter.unusedVariables false

/-- The list are cards, as many as asked. -/
def sizedB (xs : List Int) (lo hi : Int) : Bool := decide (lo ≤ (xs.length : Int) ∧ (xs.length : Int) ≤ hi) && cardsB xs
theorem sized_lo {xs : List Int} {lo hi : Int} (h : ¬ lo ≤ (xs.length : Int)) : sizedB xs lo hi = false := by unfold sizedB; rw [decide_eq_false (by omega)]; rfl
theorem sized_hi {xs : List Int} {lo hi : Int} (h : ¬ (xs.length : Int) ≤ hi) : sizedB xs lo hi = false := by unfold sizedB; rw [decide_eq_false (by omega)]; rfl
theorem sized_in {xs : List Int} {lo hi : Int} (h : lo ≤ (xs.length : Int)) (h2 : (xs.length : Int) ≤ hi) : sizedB xs lo hi = cardsB xs := by unfold sizedB; rw [decide_eq_true ⟨h, h2⟩]; rfl
theorem sized_iff {xs : List Int} {lo hi : Int} : sizedB xs lo hi = true ↔ lo ≤ (xs.length : Int) ∧ (xs.length : Int) ≤ hi ∧ cardsB xs = true := by
  unfold sizedB; rw [Bool.and_eq_true, decide_eq_true_eq, and_assoc]
def codeZ (xs : List Int) (lo hi : Int) : Int := if sizedB xs lo hi = true then 0 else 1
theorem codeZ_yes {xs : List Int} {lo hi : Int} (h : sizedB xs lo hi = true) : codeZ xs lo hi = 0 := by unfold codeZ; rw [if_pos h]
theorem codeZ_no {xs : List Int} {lo hi : Int} (h : sizedB xs lo hi = false) : codeZ xs lo hi = 1 := by unfold codeZ; rw [h]; rfl
end Go.Proofs.Ytlcimofhpphefaa

/-! Ranks and suits: the walks of both texts' functions on single cards. -/
namespace Go.Proofs.Ytlcimofhpphefaa
open Go.RowKit

/-- What RankOf, SuitOf and CardOf answer. -/
def rankR (x : Int) : Int × Int := if inB x 0 51 = true then (x / 4, 0) else (0, 2)
def suitR (x : Int) : Int × Int := if inB x 0 51 = true then (x % 4, 0) else (0, 2)
def cardR (r s : Int) : Int × Int := if (inB r 0 12 && inB s 0 3) = true then (4 * r + s, 0) else (0, 2)
theorem rankR_yes (x : Int) (h0 : 0 ≤ x) (h1 : x < 52) : rankR x = (x / 4, 0) := by unfold rankR; rw [if_pos (isC_yes x h0 h1)]
theorem rankR_no (x : Int) (h : x < 0 ∨ 52 ≤ x) : rankR x = (0, 2) := by unfold rankR; rw [isC_no x h]; rfl
theorem suitR_yes (x : Int) (h0 : 0 ≤ x) (h1 : x < 52) : suitR x = (x % 4, 0) := by unfold suitR; rw [if_pos (isC_yes x h0 h1)]
theorem suitR_no (x : Int) (h : x < 0 ∨ 52 ≤ x) : suitR x = (0, 2) := by unfold suitR; rw [isC_no x h]; rfl
theorem cardR_yes (r s : Int) (h0 : 0 ≤ r) (h1 : r ≤ 12) (h2 : 0 ≤ s) (h3 : s ≤ 3) : cardR r s = (4 * r + s, 0) := by
  unfold cardR; rw [inB_yes _ _ _ h0 h1, inB_yes _ _ _ h2 h3]; rfl
theorem cardR_r (r s : Int) (h : outB r 0 12) : cardR r s = (0, 2) := by unfold cardR; rw [outB_inB _ _ _ h]; rfl
theorem cardR_s (r s : Int) (h : outB s 0 3) : cardR r s = (0, 2) := by unfold cardR; rw [outB_inB _ _ _ h, Bool.and_false]; rfl

end Go.Proofs.Ytlcimofhpphefaa
