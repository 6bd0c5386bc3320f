/-
  What the program's variable standardVariants holds.
-/
import Derived.Test.YtjchjjnmahddiaaDoorHand
import Derived.Test.YtjchjjnmahddiaaDoorVariant
import Derived.Test.YtjchjjnmahddiaaDoorBase
import Derived.OpenVars
import Derived.OpenShut
namespace Go.Proofs.YtjchjjnmahddiaaDoor
open Go.RowKit
set_option linter.unusedVariables false

def sN : Nat → ByteArray
  | 0 => ⟨#[104, 111, 108, 100, 101, 109]⟩
  | 1 => ⟨#[111, 109, 97, 104, 97]⟩
  | 2 => ⟨#[111, 109, 97, 104, 97, 32, 101, 105, 103, 104, 116]⟩
  | 3 => ⟨#[115, 116, 117, 100]⟩
  | 4 => ⟨#[115, 116, 117, 100, 32, 101, 105, 103, 104, 116]⟩
  | 5 => ⟨#[114, 97, 122, 122]⟩
  | 6 => ⟨#[100, 114, 97, 119]⟩
  | 7 => ⟨#[100, 101, 117, 99, 101, 32, 116, 111, 32, 115, 101, 118, 101, 110]⟩
  | _ => ⟨#[]⟩
def sH : Nat → Int
  | 0 => 2
  | 1 => 4
  | 2 => 4
  | 3 => 7
  | 4 => 7
  | 5 => 7
  | 6 => 5
  | 7 => 5
  | _ => 0
def sL : Nat → Int
  | 0 => 0
  | 1 => 2
  | 2 => 2
  | 3 => 5
  | 4 => 5
  | 5 => 5
  | 6 => 5
  | 7 => 5
  | _ => 0
def sM : Nat → Int
  | 0 => 2
  | 1 => 2
  | 2 => 2
  | 3 => 5
  | 4 => 5
  | 5 => 5
  | 6 => 5
  | 7 => 5
  | _ => 0
def sB : Nat → Int
  | 0 => 5
  | 1 => 5
  | 2 => 5
  | 3 => 0
  | 4 => 0
  | 5 => 0
  | 6 => 0
  | 7 => 0
  | _ => 0
def sO : Nat → Int
  | 0 => 0
  | 1 => 0
  | 2 => 1
  | 3 => 0
  | 4 => 1
  | 5 => 2
  | 6 => 0
  | 7 => 3
  | _ => 0
def sI : Nat → Bool
  | 0 => true
  | 1 => true
  | 2 => true
  | 3 => true
  | 4 => true
  | 5 => false
  | 6 => true
  | 7 => false
  | _ => false
def sRow (k : Nat) : List Value := [.string (sN k), .int .i64 (sH k), .int .i64 (sL k), .int .i64 (sM k), .int .i64 (sB k), .bool (sI k), .int .i64 (sO k)]
def sCells : List Value := (List.range 8).flatMap sRow
theorem sCells_len : sCells.length = 56 := rfl
theorem take_flat {α : Type} (n : Nat) (cs : List α) (f : Nat → List α) : ∀ j, (∀ i, i < j → (cs.drop (i * n)).take n = f i) → cs.take (j * n) = (List.range j).flatMap f
  | 0, _ => by simp
  | j + 1, h => by
    rw [List.range_succ, List.flatMap_append, ← take_flat n cs f j (fun i hi => h i (by omega)), Nat.succ_mul, List.take_add, h j (by omega)]
    simp
theorem sRow_at (k i : Nat) (hk : k < 8) (hi : i < 7) : sCells[7 * k + i]? = (sRow k)[i]? := by
  have h1 : k = 0 ∨ k = 1 ∨ k = 2 ∨ k = 3 ∨ k = 4 ∨ k = 5 ∨ k = 6 ∨ k = 7 := by omega
  have h2 : i = 0 ∨ i = 1 ∨ i = 2 ∨ i = 3 ∨ i = 4 ∨ i = 5 ∨ i = 6 := by omega
  rcases h1 with rfl | rfl | rfl | rfl | rfl | rfl | rfl | rfl <;> rcases h2 with rfl | rfl | rfl | rfl | rfl | rfl | rfl <;> rfl
section
variable {H : Type} {enc : TypeId × Value → H} {w : World} {base : Nat} {spare : Nat → Bool} {held : Bool}
def rowD (k : Nat) : DataW H := .agg [.lit (.string (sN k).data.toList), .agg [.lit (.int .i64 (sH k)), .lit (.int .i64 (sL k)), .lit (.int .i64 (sM k)), .lit (.int .i64 (sB k)), .lit (.bool (sI k)), .lit (.int .i64 (sO k))]]
set_option maxRecDepth 100000 in
theorem variant_cells {fuel : Nat} {cs : List Value} {x : DataW H × List MemPlace} (h : DataW.trod enc Tryd.prog w base spare held fuel 23 cs = some x) :
    ∃ (a b c d : Int) (i : Bool) (e : Int), cs = [.int .i64 a, .int .i64 b, .int .i64 c, .int .i64 d, .bool i, .int .i64 e] ∧ x.1 = .agg [.lit (.int .i64 a), .lit (.int .i64 b), .lit (.int .i64 c), .lit (.int .i64 d), .lit (.bool i), .lit (.int .i64 e)] := by
  obtain ⟨xs, n, _, hx, hl, hxl, hg⟩ := DataW.trod_struct Tryd.underlying23 h
  rw [show Tryd.prog.cellsOf 23 = 6 by kernel_rfl] at hl
  match cs, hl with
  | [c0, c1, c2, c3, c4, c5], _ =>
    match xs, hxl with
    | [x0, x1, x2, x3, x4, x5], _ =>
      have k2 : Tryd.prog.cellsOf 2 = 1 := by kernel_rfl
      have k4 : Tryd.prog.cellsOf 4 = 1 := by kernel_rfl
      have h0 : DataW.trod enc Tryd.prog w base spare held n 2 (([c0, c1, c2, c3, c4, c5].drop 0).take (Tryd.prog.cellsOf 2)) = some x0 := hg 0 _ rfl
      have h1 : DataW.trod enc Tryd.prog w base spare held n 2 (([c0, c1, c2, c3, c4, c5].drop 1).take (Tryd.prog.cellsOf 2)) = some x1 := hg 1 _ rfl
      have h2 : DataW.trod enc Tryd.prog w base spare held n 2 (([c0, c1, c2, c3, c4, c5].drop 2).take (Tryd.prog.cellsOf 2)) = some x2 := hg 2 _ rfl
      have h3 : DataW.trod enc Tryd.prog w base spare held n 2 (([c0, c1, c2, c3, c4, c5].drop 3).take (Tryd.prog.cellsOf 2)) = some x3 := hg 3 _ rfl
      have h4 : DataW.trod enc Tryd.prog w base spare held n 4 (([c0, c1, c2, c3, c4, c5].drop 4).take (Tryd.prog.cellsOf 4)) = some x4 := hg 4 _ rfl
      have h5 : DataW.trod enc Tryd.prog w base spare held n 2 (([c0, c1, c2, c3, c4, c5].drop 5).take (Tryd.prog.cellsOf 2)) = some x5 := hg 5 _ rfl
      rw [k2] at h0 h1 h2 h3 h5
      rw [k4] at h4
      obtain ⟨y0, e0, d0, _⟩ := DataW.trod_int Tryd.underlying2 h0
      obtain ⟨y1, e1, d1, _⟩ := DataW.trod_int Tryd.underlying2 h1
      obtain ⟨y2, e2, d2, _⟩ := DataW.trod_int Tryd.underlying2 h2
      obtain ⟨y3, e3, d3, _⟩ := DataW.trod_int Tryd.underlying2 h3
      obtain ⟨y4, e4, d4⟩ := DataW.trod_bool Tryd.underlying4 h4
      obtain ⟨y5, e5, d5, _⟩ := DataW.trod_int Tryd.underlying2 h5
      simp at e0 e1 e2 e3 e4 e5
      subst e0 e1 e2 e3 e4 e5
      refine ⟨y0, y1, y2, y3, y4, y5, rfl, ?_⟩
      rw [hx]
      simp [d0, d1, d2, d3, d4, d5]
set_option maxRecDepth 100000 in
theorem named_cells {fuel : Nat} {cs : List Value} {x : DataW H × List MemPlace} (k : Nat) (h : DataW.trod enc Tryd.prog w base spare held fuel 58 cs = some x) (hx1 : x.1 = rowD k) : cs = sRow k := by
  obtain ⟨xs, n, _, hx, hl, hxl, hg⟩ := DataW.trod_struct Tryd.underlying58 h
  rw [show Tryd.prog.cellsOf 58 = 7 by kernel_rfl] at hl
  match cs, hl with
  | [c0, c1, c2, c3, c4, c5, c6], _ =>
    match xs, hxl with
    | [x0, x1], _ =>
      have k2 : Tryd.prog.cellsOf 9 = 1 := by kernel_rfl
      have k4 : Tryd.prog.cellsOf 23 = 6 := by kernel_rfl
      have h0 : DataW.trod enc Tryd.prog w base spare held n 9 (([c0, c1, c2, c3, c4, c5, c6].drop 0).take (Tryd.prog.cellsOf 9)) = some x0 := hg 0 _ rfl
      have h1 : DataW.trod enc Tryd.prog w base spare held n 23 (([c0, c1, c2, c3, c4, c5, c6].drop 1).take (Tryd.prog.cellsOf 23)) = some x1 := hg 1 _ rfl
      rw [k2] at h0
      rw [k4] at h1
      obtain ⟨s, e0, d0, _⟩ := DataW.trod_string Tryd.underlying9 h0
      obtain ⟨a, b, c, d, i, e, e1, d1⟩ := variant_cells h1
      rw [hx] at hx1
      simp [d0, d1, rowD] at hx1
      obtain ⟨q0, q1, q2, q3, q4, q5, q6⟩ := hx1
      simp at e0 e1
      obtain ⟨p1, p2, p3, p4, p5, p6⟩ := e1
      subst e0 p1 p2 p3 p4 p5 p6
      unfold sRow
      rw [q1, q2, q3, q4, q5, q6]
      have : s = sN k := by
        cases s with
        | mk s => cases hs : sN k with
          | mk t => rw [hs] at q0; exact congrArg ByteArray.mk q0
      rw [this]
end
theorem gStd : Tryd.prog.globalNamed "loop.example/g00910/impl.standardVariants" = some 0 := by kernel_rfl
theorem std_data : (Rows.laid_loop_example_g00910_impl_standardVariants : DataW Unit) = .agg ((List.range 8).map rowD) := rfl
/-- The variable holds its cells, in every world that keeps what was there. -/
def Std (B : Nat) (w : World) : Prop := ∀ w', Below B w w' → w'.var? Tryd.prog "loop.example/g00910/impl.standardVariants" = some sCells.toArray
theorem Std.on {B : Nat} {w w1 : World} (h : Std B w) (hb : Below B w w1) : Std B w1 := fun w' hb' => h w' (hb.trans hb')
set_option maxRecDepth 100000 in
theorem std_of {W : World} {r : List (String × DataW Unit)} (h : laidMet Tryd.prog (("loop.example/g00910/impl.standardVariants", Rows.laid_loop_example_g00910_impl_standardVariants) :: r) W) : Std W.heap.size W := by
  rw [std_data] at h
  obtain ⟨ps, ⟨g', t', cs, fuel, p, q, hg', ht', hvar, hd, _, _⟩, _⟩ := h
  obtain rfl := Option.some.inj (gStd.symm.trans hg')
  obtain rfl : 59 = t' := Option.some.inj ((show (Tryd.prog.globals[0]?).map (·.type) = some 59 by kernel_rfl).symm.trans ht')
  obtain ⟨xs, m, _, hx, hl, hxl, hel⟩ := DataW.trod_array Tryd.underlying59 hd
  rw [show Tryd.prog.cellsOf 59 = 56 by kernel_rfl] at hl
  have k7 : Tryd.prog.cellsOf 58 = 7 := by kernel_rfl
  have hxs : xs.map (·.1) = (List.range 8).map rowD := by
    have := congrArg Prod.fst hx
    simp only [DataW.agg.injEq] at this
    exact this.symm
  have hcs : cs.toList = sCells := by
    have h1 := take_flat 7 cs.toList sRow 8 (fun i hi => by
      have h2 := hel i hi
      rw [k7, List.getElem?_eq_getElem (by omega)] at h2
      refine named_cells i h2 ?_
      have h3 : (xs.map (·.1))[i]? = ((List.range 8).map (rowD (H := Unit)))[i]? := by rw [hxs]
      simp [List.getElem?_eq_getElem (show i < xs.length by omega), hi] at h3
      exact h3)
    rw [List.take_of_length_le (by omega)] at h1
    exact h1
  intro w' hb
  rw [show cs = sCells.toArray by rw [← hcs]] at hvar
  unfold World.var? at hvar ⊢
  rw [gStd] at hvar ⊢
  simp only [Option.bind_some] at hvar ⊢
  have hlt : 0 < W.heap.size := by
    rcases Nat.lt_or_ge 0 W.heap.size with h' | h'
    · exact h'
    · rw [Array.getElem?_eq_none h'] at hvar; cases hvar
  rw [hb.block _ hlt]
  exact hvar
theorem std_cell {B : Nat} {w W : World} (h : Std B w) (hb : Below B w W) (i : Nat) (hi : i < 56) : W.cell? ⟨0, i, none⟩ = some (sCells.getD i undef) := by
  have := World.var?_cell gStd (h W hb) i
  rw [this]
  have hi' : i < sCells.length := by rw [sCells_len]; exact hi
  simp [List.getD, hi']
theorem std_row {B : Nat} {w W : World} (h : Std B w) (hb : Below B w W) (k i : Nat) (hk : k < 8) (hi : i < 7) (v : Value) (hv : (sRow k)[i]? = some v) : W.cell? ⟨0, 7 * k + i, none⟩ = some v := by
  rw [std_cell h hb _ (by omega), List.getD_eq_getElem?_getD, sRow_at k i hk hi, hv]
  rfl
theorem std_range {B : Nat} {w W : World} (h : Std B w) (hb : Below B w W) : W.rangeAt 0 0 sCells := by
  intro i v hv
  have hi : i < 56 := by
    rw [← sCells_len]
    exact (List.getElem?_eq_some_iff.1 hv).1
  have := std_cell h hb i hi
  rw [List.getD_eq_getElem?_getD, hv] at this
  rw [Nat.zero_add]
  exact this
end Go.Proofs.YtjchjjnmahddiaaDoor
