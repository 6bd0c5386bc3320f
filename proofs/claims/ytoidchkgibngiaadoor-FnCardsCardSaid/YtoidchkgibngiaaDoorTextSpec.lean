/-
  The model's l02Text and CardsText.
-/
import Derived.Test.YtoidchkgibngiaaDoorTextImpl
import Derived.Test.YtoidchkgibngiaaDoorSpecAre
import Derived.Maps.AppendAt
import Derived.Deep.RegionLaw
import Derived.Laws.BytesArg
namespace Go.Proofs.YtoidchkgibngiaaDoor
open Go.RowKit
set_option linter.unusedVariables false

/-- A row of bytes of the call's own. -/
def OwnB (w : World) (lo : Nat) (v : Value) (l : List UInt8) : Prop := w.ownsRow lo 5 1 v l.length (Lib.byteCells l)
theorem index_rank (r : Nat) (hr : r < 13) (W : World) : (Instr.index 9 (.string ⟨#[50, 51, 52, 53, 54, 55, 56, 57, 84, 74, 81, 75, 65]⟩) (.int .i64 r)).run Tryd.prog W = .ok (.int .u8 (rankCh r).toNat) W := by
  match r, hr with
  | 0, _ => rfl
  | 1, _ => rfl
  | 2, _ => rfl
  | 3, _ => rfl
  | 4, _ => rfl
  | 5, _ => rfl
  | 6, _ => rfl
  | 7, _ => rfl
  | 8, _ => rfl
  | 9, _ => rfl
  | 10, _ => rfl
  | 11, _ => rfl
  | 12, _ => rfl
theorem index_suit (s : Nat) (hs : s < 4) (W : World) : (Instr.index 9 (.string ⟨#[99, 100, 104, 115]⟩) (.int .i64 s)).run Tryd.prog W = .ok (.int .u8 (suitCh s).toNat) W := by
  match s, hs with
  | 0, _ => rfl
  | 1, _ => rfl
  | 2, _ => rfl
  | 3, _ => rfl
/-- append of bytes as one step of a region that draws. -/
theorem step_bytes {ops : Array Oper} {o : Oper} {a : Act} {w : World} {K : Act → World → Prop} {Q : Exit → Act → World → Prop} {E : Prop} (hgd : o.guard = none) (s x : Operand)
    (ho : o.op = .call { callee := .builtin .append, args := #[s, x], argTypes := #[22, 22] })
    (lo : Nat) (v : Value) (l : List UInt8) (hs : a.eval s = v) (hown : OwnB w lo v l) (ad : Addr) (m c : Nat) (news : List UInt8) (hx : a.eval x = .slice (some ad) m c) (hm : news.length = m)
    (hnews : ∀ j u, (Lib.byteCells news)[j]? = some u → w.cell? (ad.add j) = some u) (hb : l.length + news.length ≤ 100000000) (hlo : lo ≤ w.heap.size)
    (h : ∀ v' w', OwnB w' lo v' (l ++ news) → w.grownBy w' v.ownBlock → K (a.put o.dst v') w') :
    if Region.wanted o (yielded ops a.tmps) = true then Oper.wp Tryd.prog o a w K Q else E := by
  have hw : Region.wanted o (yielded ops a.tmps) = true := by simp [Region.wanted, hgd]
  rw [if_pos hw]
  subst hm
  obtain ⟨i0, hi, hz0, hz1, hz2⟩ := info_parts infoByte
  obtain ⟨v', w', hr, h2, h3, _, _⟩ := run_append_own_at (P := Tryd.prog) w lo 22 o.type 5 i0 (.int .u8 0) 1 1 Tryd.underlying22 hi hz0 hz1 hz2 rfl (by decide) v l.length (Lib.byteCells l) hown ad news.length c (Lib.byteCells news) (by rw [Lib.byteCells_length, Nat.mul_one]) hnews
    (fun u hu => by unfold Lib.byteCells at hu; obtain ⟨y, _, rfl⟩ := List.mem_map.1 hu; rfl) (by unfold maxLen; omega) (by omega) hlo
  have h4 : OwnB w' lo v' (l ++ news) := by
    unfold OwnB
    have e : Lib.byteCells (l ++ news) = Lib.byteCells l ++ Lib.byteCells news := by simp [Lib.byteCells]
    rw [e, List.length_append]; exact h2
  unfold Oper.wp execOp
  simp only [ho, resolve, invoke, builtin, Sem.run_bind, Sem.run_pure, Result.andThen_ok, List.map_toArray, List.map_cons, List.map_nil, hs, hx, hr]
  exact h v' w' h4 h3

/-- The loop's state. -/
def Text (w : World) (xs : List Int) (v : Value) (wr : World) : Prop := OwnB wr w.heap.size v (textT xs) ∧ Below w.heap.size w wr
theorem text_start (w : World) : Text w [] (.slice (some ⟨w.heap.size, 0, none⟩) 0 0) (w.alloc (.cells #[] 5)) :=
  ⟨World.ownsRow_made w #[] 0 (Nat.le_refl _) (by unfold maxLen; omega) rfl, bl_alloc (bl_refl _) _⟩
theorem text_step {w wr W w1 : World} {xs : List Int} {x : Int} {v v' : Value} (h : Text w xs v wr) (hW : Below wr.heap.size wr W) (h1 : OwnB w1 w.heap.size v' (textT xs ++ cardT x)) (hg : W.grownBy w1 v.ownBlock) : Text w (xs ++ [x]) v' w1 :=
  ⟨by rw [textT_snoc]; exact h1, (bl_trans h.2 hW).grown hg (Nat.le_trans h.2.size hW.size) (fun j hj => (World.ownsRow.lt h.1 j hj).1)⟩
theorem own_bytes {w : World} {lo : Nat} {v : Value} {l : List UInt8} (h : OwnB w lo v l) : (∃ c, v = .slice none 0 c ∧ l = []) ∨ ∃ g c, v = .slice (some ⟨g, 0, none⟩) l.length c ∧ ∀ i, i < l.length → w.cell? ⟨g, 0 + i, none⟩ = some (.int .u8 ((l.map (fun b => (b.toNat : Int))).getD i 0)) := by
  rcases h.2 with ⟨hv, h0⟩ | ⟨g, cap, cur, hv, hb, hg, hnc, hm, hsz, htk⟩
  · exact .inl ⟨0, hv, List.length_eq_zero_iff.1 h0⟩
  · subst hv
    refine .inr ⟨g, cap, rfl, fun i hi => ?_⟩
    rw [Nat.zero_add, World.ownsRow.cellAt h i (by omega)]
    simp [Lib.byteCells, hi]
theorem text_conv (w : World) (lo : Nat) (v : Value) (l : List UInt8) (h : OwnB w lo v l) : (convert 22 9 v).run Tryd.prog w = .ok (strV l) w := by
  rcases own_bytes h with ⟨c, rfl, rfl⟩ | ⟨g, c, rfl, hc⟩
  · exact run_convert_bytes_nil w 22 5 Tryd.underlying22 Tryd.underlying5 0 c 9 Tryd.underlying9
  · have := run_convert_bytes_arg w 22 5 Tryd.underlying22 Tryd.underlying5 g 0 l.length c (l.map (fun b => (b.toNat : Int))) (by simp) hc 9 Tryd.underlying9
    rw [this]
    congr 2
    unfold strOfNums
    have e : (fun n : Int => UInt8.ofNat n.toNat) ∘ (fun b : UInt8 => (b.toNat : Int)) = id := by funext b; simp
    rw [List.map_map, e, List.map_id]

set_option maxRecDepth 100000 in
set_option maxHeartbeats 2000000 in
theorem l02Text_any (A : Option Addr) (c : Nat) (xs : List Int) (w : World) (hr : Rd w A xs) (hn : xs.length ≤ 4000000) (hb : ∀ x ∈ xs, 0 ≤ x ∧ x < 52) :
    Calls Tryd.prog 26 #[.slice A xs.length c] w (Fresh (strV (textT xs)) w) := by
  have HR := Lib.hid hr
  have HX := Lib.hid hb
  clear hr hb
  obtain ⟨w0, rfl⟩ : ∃ w0 : World, w0 = w := ⟨w, rfl⟩
  go_enter Tryd.func26, Tryd.ntmps26
  go_wp2_with fail
  go_loopw [3, 4] (fun v i wr => ∃ k : Nat, k ≤ xs.length ∧ i = .int .i64 k ∧ Hid (Text w0 (xs.take k) v wr)) (fun _ i _ => xs.length - (intOf i).toNat)
  case atStart => exact ⟨0, Nat.zero_le _, rfl, Lib.hid (by rw [List.take_zero]; exact text_start w0)⟩
  case round =>
    obtain ⟨k, hk, rfl, hs⟩ := hrel
    by_cases hlt : k < xs.length
    · obtain ⟨b, off, rfl, hc⟩ := HR.out.at_ hs.out.2 k hlt
      have hlt' : (k : Int) < xs.length := by omega
      have HC := Lib.hid (take_nth xs k hlt)
      obtain ⟨h0, h1⟩ := HX.out _ (nth_mem xs k hlt)
      obtain ⟨x, ex⟩ : ∃ x, x = nth xs k := ⟨_, rfl⟩
      rw [← ex] at hc HC h0 h1
      clear ex
      obtain ⟨r, s, hrr, hss, er, es, HT⟩ : ∃ r s : Nat, r < 13 ∧ s < 4 ∧ x / 4 = (r : Int) ∧ x % 4 = (s : Int) ∧ Hid (cardT x = [rankCh r, suitCh s]) := by
        refine ⟨x.toNat / 4, x.toNat % 4, by omega, by omega, by omega, by omega, Lib.hid rfl⟩
      have e1 : x.tdiv 4 = (r : Int) := by rw [Int.tdiv_eq_ediv_of_nonneg h0]; exact er
      have e2 : x.tmod 4 = (s : Int) := by rw [Int.tmod_eq_emod_of_nonneg h0]; exact es
      have e3 : IntKind.i64.wrap (r : Int) = (r : Int) := by rw [IntKind.wrap_i64]; omega
      have e4 : IntKind.i64.wrap (s : Int) = (s : Int) := by rw [IntKind.wrap_i64]; omega
      have i1 := index_rank r hrr
      have i2 := index_suit s hss
      have HL : Hid ((textT (xs.take k)).length + [rankCh r, suitCh s].length ≤ 100000000) := Lib.hid (by rw [textT_length, List.length_take]; simp; omega)
      have HN : Hid (∀ j u, (Lib.byteCells [rankCh r, suitCh s])[j]? = some u → (wr.alloc (.cells #[.int .u8 (rankCh r).toNat, .int .u8 (suitCh s).toNat] 5)).cell? ((⟨wr.heap.size, 0, none⟩ : Addr).add j) = some u) := Lib.hid (fun j u hj => by
        match j, hj with
        | 0, hj => simp [Lib.byteCells] at hj; subst hj; simp [Addr.add]
        | 1, hj => simp [Lib.byteCells] at hj; subst hj; simp [Addr.add, go_sem]
        | j + 2, hj => simp [Lib.byteCells] at hj)
      have HO : Hid (OwnB (wr.alloc (.cells #[.int .u8 (rankCh r).toNat, .int .u8 (suitCh s).toNat] 5)) w0.heap.size _ (textT (xs.take k))) := Lib.hid (hs.out.1.alloc _)
      have HZ : Hid (w0.heap.size ≤ (wr.alloc (.cells #[.int .u8 (rankCh r).toNat, .int .u8 (suitCh s).toNat] 5)).heap.size) := Lib.hid (by have := hs.out.2.size; simp; omega)
      clear er es h0 h1
      go_wp2_with fail
      go_region_law (
        refine step_bytes rfl (.tmp 12) (.tmp 25) rfl w0.heap.size _ (textT (xs.take k)) (by simp [Act.eval]) HO.out ⟨wr.heap.size, 0, none⟩ 2 2 [rankCh r, suitCh s] (by simp [Act.eval]) rfl HN.out HL.out HZ.out ?_
        intro v' w1 ho1 hg1)
      all_goals
        have HS2 : Hid (Text w0 (xs.take (k + 1)) v' w1) := Lib.hid (by
          rw [HC.out]
          refine text_step hs.out ?_ (by rw [HT.out]; exact ho1) hg1
          repeat (first | exact bl_refl _ | apply bl_alloc | apply bl_drewN | apply bl_drew))
        clear ho1 hg1 e1 e2 e3 e4 i1 i2 HN HO HZ HL hc
        go_wp2_with fail
        go_roundw
        case rel => exact ⟨k + 1, by omega, by go_num, HS2⟩
        case measure => simp [intOf]; omega
    · obtain rfl : k = xs.length := by omega
      have HW : Hid (Text w0 xs _ wr) := Lib.hid (by have := hs.out; rwa [take_len] at this)
      have HV := text_conv _ _ _ _ HW.out.1
      go_wp2_with fail
      go_ret
      exact ⟨rfl, HW.out.2⟩
set_option maxRecDepth 100000 in
set_option maxHeartbeats 400000 in
theorem specText_any (A : Option Addr) (c : Nat) (xs : List Int) (w : World) (hr : Rd w A xs) (hn : xs.length ≤ 4000000) :
    Calls Tryd.prog 8 #[.slice A xs.length c] w (NewTC (textR xs) (codeC xs) w) := by
  have K := Lib.hid (fun (c : Nat) => specAre_any A c xs w hr hn)
  have HR := Lib.hid hr
  by_cases h : cardsB xs = true
  · rw [textR_yes h, codeC_yes h]
    rw [h] at K
    have K2 := Lib.hid (fun (c : Nat) (W : World) (hb : Below w.heap.size w W) => l02Text_any A c xs W (HR.out.below hb) hn ((cards_iff xs).1 h).1)
    clear h hr
    go_enter Tryd.func8, Tryd.ntmps8
    go_wp2_with (go_at_call 25; refine (K.out _).mono ?_; rintro e w1 ⟨rfl, hb1⟩; have B1 := Lib.hid hb1; clear hb1)
    go_wp2_with (go_at_call 26; refine (K2.out _ _ B1.out).mono ?_; rintro e w2 ⟨rfl, hb2⟩)
    go_ret2
    exact ⟨rfl, bl_trans B1.out hb2⟩
  · have hf : cardsB xs = false := by simpa using h
    rw [textR_no hf, codeC_no hf]
    rw [hf] at K
    clear h hr hf
    go_enter Tryd.func8, Tryd.ntmps8
    go_wp2_with (go_at_call 25; refine (K.out _).mono ?_; rintro e w1 ⟨rfl, hb1⟩)
    go_ret2
    exact ⟨rfl, hb1⟩

end Go.Proofs.YtoidchkgibngiaaDoor
