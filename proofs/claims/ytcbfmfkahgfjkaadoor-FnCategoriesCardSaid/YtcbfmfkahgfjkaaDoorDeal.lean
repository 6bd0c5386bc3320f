/-
  l02Deal: cards drawn from those that are left: some list of at most 52 numbers.
-/
import Derived.Test.YtcbfmfkahgfjkaaDoorSrcOwn
import Derived.Deep.RegionLaw
import Derived.IntWalk
namespace Go.Proofs.YtcbfmfkahgfjkaaDoor
open Go.RowKit
set_option linter.unusedVariables false

/-- append as one step of a region that draws: what is left is what follows. -/
theorem step_cut {ops : Array Oper} {o : Oper} {a : Act} {w : World} {K : Act → World → Prop} {Q : Exit → Act → World → Prop} {E : Prop} (hgd : o.guard = none) (s x : Operand)
    (ho : o.op = .call { callee := .builtin .append, args := #[s, x], argTypes := #[22, 22] })
    (lo : Nat) (v : Value) (xs : List Int) (hs : a.eval s = v) (hown : Own w lo v xs) (ad : Addr) (m c : Nat) (ys : List Int) (hx : a.eval x = .slice (some ad) m c) (hm : ys.length = m)
    (hnews : ∀ j u, (ints ys)[j]? = some u → w.cell? (ad.add j) = some u) (hb : xs.length + ys.length ≤ 4000000) (hlo : lo ≤ w.heap.size)
    (h : ∀ A' c' ws w', Hid (ws = xs ++ ys) → Own w' lo (.slice A' ws.length c') ws → w.grownBy w' v.ownBlock → K (a.put o.dst (.slice A' ws.length c')) w') :
    if Region.wanted o (yielded ops a.tmps) = true then Oper.wp Tryd.prog o a w K Q else E := by
  have hw : Region.wanted o (yielded ops a.tmps) = true := by simp [Region.wanted, hgd]
  rw [if_pos hw]
  subst hm
  obtain ⟨i0, hi, hz0, hz1, hz2⟩ := info_parts infoInt
  obtain ⟨v', w', hr, h2, h3, _, _⟩ := run_append_own_at (P := Tryd.prog) w lo 22 o.type 2 i0 (.int .i64 0) 1 8 Tryd.underlying22 hi hz0 hz1 hz2 rfl (by decide) v xs.length (ints xs) hown ad ys.length c (ints ys) (by rw [ints_length, Nat.mul_one]) hnews
    (fun u hu => by unfold ints at hu; obtain ⟨y, _, rfl⟩ := List.mem_map.1 hu; rfl) (by unfold maxLen; omega) (by omega) hlo
  have h4 : Own w' lo v' (xs ++ ys) := by unfold Own; rw [ints_append, List.length_append]; exact h2
  obtain ⟨A', c', rfl, h5⟩ := own_form h4
  unfold Oper.wp execOp
  simp only [ho, resolve, invoke, builtin, Sem.run_bind, Sem.run_pure, Result.andThen_ok, List.map_toArray, List.map_cons, List.map_nil, hs, hx, hr]
  exact h A' c' _ w' (Lib.hid rfl) h5 h3

/-- A drawn list of at most N numbers. -/
def DrewC (N : Nat) (w : World) (s : Nat) (a : Option Addr) (L c : Nat) (zs : Nat → Int) (e : Ending) (w' : World) : Prop :=
  ∃ (xs : List Int) (A : Option Addr) (cc : Nat), e = .returned (.slice A xs.length cc) ∧ xs.length ≤ N ∧ Own w' w.heap.size (.slice A xs.length cc) xs ∧ Src w' s a L c zs ∧ Only s w w' ∧ ∀ x ∈ xs, 0 ≤ x ∧ x < 52
/-- .. of whatever numbers. -/
def DrewL (N : Nat) (w : World) (s : Nat) (a : Option Addr) (L c : Nat) (zs : Nat → Int) (e : Ending) (w' : World) : Prop :=
  ∃ (xs : List Int) (A : Option Addr) (cc : Nat), e = .returned (.slice A xs.length cc) ∧ xs.length ≤ N ∧ Own w' w.heap.size (.slice A xs.length cc) xs ∧ Src w' s a L c zs ∧ Only s w w'

/-- What the dealing loop keeps. -/
structure Deals (w : World) (s : Nat) (a : Option Addr) (L c : Nat) (zs : Nat → Int) (rs os : List Int) (r v : Value) (wr : World) : Prop where
  rest : Own wr w.heap.size r rs
  out : Own wr w.heap.size v os
  apart : Apart r v
  src : Src wr s a L c zs
  only : Only s w wr
  len : os.length + rs.length ≤ 52
  rng : (∀ x ∈ rs, 0 ≤ x ∧ x < 52) ∧ ∀ x ∈ os, 0 ≤ x ∧ x < 52



theorem deals_next {w wr w1 : World} {s : Nat} {a : Option Addr} {L c : Nat} {zs : Nat → Int} {rs os : List Int} {r v : Value} (h : Deals w s a L c zs rs os r v wr) (hs : s < w.heap.size) (hsrc : Src w1 s a L c zs) (ho : Only s wr w1) : Deals w s a L c zs rs os r v w1 :=
  ⟨own_only h.rest ho hs, own_only h.out ho hs, h.apart, hsrc, only_trans h.only ho, h.len, h.rng⟩
/-- What holds when a card has been put out, and is not yet taken from the rest. -/
structure Put (w : World) (s : Nat) (a : Option Addr) (L c : Nat) (zs : Nat → Int) (rs os : List Int) (r v : Value) (wr : World) : Prop where
  rest : Own wr w.heap.size r rs
  out : Own wr w.heap.size v os
  src : Src wr s a L c zs
  only : Only s w wr
  len : os.length + rs.length ≤ 53
  rng : (∀ x ∈ rs, 0 ≤ x ∧ x < 52) ∧ ∀ x ∈ os, 0 ≤ x ∧ x < 52
theorem deals_put {w w1 w2 : World} {s g cap : Nat} {a : Option Addr} {L c : Nat} {zs : Nat → Int} {rs os : List Int} {r v : Value} {y : Int} {o : Obj} (h : Deals w s a L c zs rs os r v w1) (hs : s < w.heap.size) (hB : CodeB w.heap.size a L) (hy : y ∈ rs)
    (hown : w2.ownsRow w.heap.size 2 1 (.slice (some ⟨g, 0, none⟩) (os.length + 1) cap) (os.length + 1) (ints os ++ [.int .i64 y])) (hgrow : (w1.alloc o).grownBy w2 v.ownBlock) :
    Put w s a L c zs rs (os ++ [y]) r (.slice (some ⟨g, 0, none⟩) (os.length + 1) cap) w2 := by
  have hr : ∀ j, v.ownBlock = some j → w.heap.size ≤ j := fun j hj => (World.ownsRow.lt h.out j hj).1
  exact ⟨Own.grown (h.rest.below (bl_alloc (bl_refl _) _)) hgrow h.apart.ne, own_app hown, src_grown (src_alloc h.src o) hgrow hr hs hB, only_grown (only_alloc h.only o) hgrow hr, by have := h.len; simp; omega, h.rng.1, fun x hx => by
    rcases List.mem_append.1 hx with hx | hx
    · exact h.rng.2 x hx
    · obtain rfl : x = y := by simpa using hx
      exact h.rng.1 x hy⟩
/-- Where a cut behind the k-th number begins. -/
theorem cut_at (w : World) (g lo cap k : Nat) (rs : List Int) (h : Own w lo (.slice (some ⟨g, 0, none⟩) rs.length cap) rs) (hk : k < rs.length) :
    ∃ A : Addr, (if cap = k + 1 then some (⟨g, 0, none⟩ : Addr) else some ⟨g, k + 1, none⟩) = some A ∧ ∀ W : World, (∀ i, i < rs.length → W.cell? ⟨g, i, none⟩ = some (.int .i64 (nth rs i))) → ∀ j u, (ints (rs.drop (k + 1)))[j]? = some u → W.cell? (A.add j) = some u := by
  obtain ⟨g', e, _, _, hc, _⟩ := own_some h (by omega)
  by_cases hcap : cap = k + 1
  · refine ⟨⟨g, 0, none⟩, by simp [hcap], fun W hW j u hu => ?_⟩
    have : (rs.drop (k + 1)).length = 0 := by rw [List.length_drop]; omega
    rw [List.length_eq_zero_iff.1 this] at hu
    simp [ints] at hu
  · refine ⟨⟨g, k + 1, none⟩, by simp [hcap], fun W hW j u hu => ?_⟩
    have hj : j < (rs.drop (k + 1)).length := by have := (List.getElem?_eq_some_iff.1 hu).1; rwa [ints_length] at this
    rw [ints_get _ j hj] at hu
    rw [List.length_drop] at hj
    have e2 : nth (rs.drop (k + 1)) j = nth rs (k + 1 + j) := by
      unfold nth
      rw [List.getD_eq_getElem?_getD, List.getD_eq_getElem?_getD, List.getElem?_drop]
    rw [add_at, hW (k + 1 + j) (by omega), ← e2]
    exact hu
theorem take_cells (W : World) (g k : Nat) (rs : List Int) (hk : k < rs.length) (hW : ∀ i, i < rs.length → W.cell? ⟨g, i, none⟩ = some (.int .i64 (nth rs i))) : ∀ j u, (ints (rs.take k))[j]? = some u → W.cell? ((⟨g, 0, none⟩ : Addr).add j) = some u := by
  intro j u hu
  have hj : j < (rs.take k).length := by have := (List.getElem?_eq_some_iff.1 hu).1; rwa [ints_length] at this
  rw [ints_get _ j hj] at hu
  rw [List.length_take] at hj
  have e2 : nth (rs.take k) j = nth rs j := by
    unfold nth
    rw [List.getD_eq_getElem?_getD, List.getD_eq_getElem?_getD, List.getElem?_take, if_pos (by omega)]
  rw [add_at, Nat.zero_add, hW j (by omega), ← e2]
  exact hu

/-- The rest's cells, once the new row has been begun. -/
theorem rest_cells {w3 W w4 : World} {lo g cap n : Nat} {rs : List Int} {o : Obj} (h : Own w3 lo (.slice (some ⟨g, 0, none⟩) rs.length cap) rs) (hg : W.grownBy w4 (Value.slice (some ⟨w3.heap.size, 0, none⟩) n n).ownBlock) (hW : W.heap = (w3.alloc o).heap) :
    ∀ i, i < rs.length → w4.cell? ⟨g, i, none⟩ = some (.int .i64 (nth rs i)) := by
  intro i hi
  have hc := own_cell h i hi
  have hl : g < w3.heap.size := World.block_lt_of_cell? w3 _ hc
  have e1 : w4.heap[g]? = W.heap[g]? := hg.block g (by rw [hW]; simp; omega) (by show some g ≠ some w3.heap.size; intro e; injection e; omega)
  have e2 : W.heap[g]? = w3.heap[g]? := by rw [hW]; exact Below.heap_alloc w3 o g hl
  exact (World.cell?_of_block (w := w3) (a := ⟨g, i, none⟩) (e1.trans e2)).trans hc
theorem only_below' {s : Nat} {w w1 w2 : World} (h : Only s w w1) (hb : Below w1.heap.size w1 w2) : Only s w w2 := only_trans h (only_below hb)
/-- The card is taken from the rest. -/
theorem deals_cut {w w3 W w4 w5 : World} {s : Nat} {a : Option Addr} {L c n c4 : Nat} {zs : Nat → Int} {rs os xs ys : List Int} {r v : Value} {A4 A5 : Option Addr} {c5 : Nat} (h : Put w s a L c zs rs os r v w3) (hs : s < w.heap.size) (hB : CodeB w.heap.size a L) (hW : Below w3.heap.size w3 W)
    (hg4 : W.grownBy w4 (Value.slice (some ⟨w3.heap.size, 0, none⟩) n n).ownBlock) (ho4 : Own w4 w3.heap.size (.slice A4 xs.length c4) xs) (hg5 : w4.grownBy w5 (Value.slice A4 xs.length c4).ownBlock) (ho5 : Own w5 w3.heap.size (.slice A5 ys.length c5) ys) (hl : os.length + ys.length ≤ 52) (hy : ∀ x ∈ ys, x ∈ rs) :
    Deals w s a L c zs ys os (.slice A5 ys.length c5) v w5 := by
  have hr4 : ∀ j, (Value.slice (some ⟨w3.heap.size, 0, none⟩) n n).ownBlock = some j → w3.heap.size ≤ j := fun j hj => by
    have : w3.heap.size = j := by injection hj
    omega
  have hr5 : ∀ j, (Value.slice A4 xs.length c4).ownBlock = some j → w3.heap.size ≤ j := fun j hj => (World.ownsRow.lt ho4 j hj).1
  have hw : w.heap.size ≤ w3.heap.size := h.only.size
  have hv := World.ownsRow.lt h.out
  have v1 : Own W w.heap.size v os := h.out.below hW
  have v2 : Own w4 w.heap.size v os := Own.grown v1 hg4 (by
    rcases hvb : v.ownBlock with _ | j
    · exact .inl rfl
    · right; intro e; have := (hv j hvb).2; have := hr4 j e.symm; omega)
  have v3 : Own w5 w.heap.size v os := Own.grown v2 hg5 (by
    rcases hvb : v.ownBlock with _ | j
    · exact .inl rfl
    · right; intro e; have := (hv j hvb).2; have := hr5 j e.symm; omega)
  refine ⟨ho5.less hw, v3, ?_, ?_, ?_, hl, fun x hx => h.rng.1 x (hy x hx), h.rng.2⟩
  · exact (apart_new h.out ho5 (Nat.le_refl _)).symm
  · exact src_grown (src_grown (h.src.below hW) hg4 (fun j hj => Nat.le_trans hw (hr4 j hj)) hs hB) hg5 (fun j hj => Nat.le_trans hw (hr5 j hj)) hs hB
  · exact only_grown (only_grown (only_below' h.only hW) hg4 (fun j hj => Nat.le_trans hw (hr4 j hj))) hg5 (fun j hj => Nat.le_trans hw (hr5 j hj))

set_option maxRecDepth 100000 in
set_option maxHeartbeats 2000000 in
theorem deal_any (s : Nat) (n : Int) (B : Option Addr) (cB : Nat) (bs : List Int) (a : Option Addr) (L c : Nat) (zs : Nat → Int) (w : World) (hn : n ≤ 1000) (hm : -1000 ≤ n) (hr : Rd w B bs) (hbl : bs.length ≤ 4000000) (h : Src w s a L c zs) :
    Calls Tryd.prog 93 #[.pointer (some ⟨s, 0, none⟩), .int .i64 n, .slice B bs.length cB] w (DrewC 52 w s a L c zs) := by
  have HS := src_lt h
  have HB := Lib.hid (codeB_of h)
  have KO := Lib.hid (fun W (hb : Below w.heap.size w W) => others_any B cB bs W (hr.below hb) hbl)
  have hol := othersN_len 52 bs
  have HRG := Lib.hid (othersN_rng 52 bs)
  have H := Lib.hid h
  clear h hr
  obtain ⟨w0, rfl⟩ : ∃ w0 : World, w0 = w := ⟨w, rfl⟩
  obtain ⟨i0, hi, hz0, hz1, hz2⟩ := info_parts infoInt
  go_enter Tryd.func93, Tryd.ntmps93
  go_wp2_with (go_at_call 102; refine (KO.out _ (bl_refl _)).mono ?_; rintro e w1 ⟨A1, c1, rfl, ho1, hb1⟩)
  generalize othersN 52 bs = rs0 at *
  have HD : Hid (Deals w0 s a L c zs rs0 [] (.slice A1 rs0.length c1) (.slice (some ⟨w1.heap.size, 0, none⟩) 0 0) (w1.alloc (.cells #[] 2))) := Lib.hid
    ⟨ho1.below (bl_alloc (bl_refl _) _), World.ownsRow_made w1 #[] 0 hb1.size (by unfold maxLen; omega) rfl,
     apart_new (u := .slice (some ⟨w1.heap.size, 0, none⟩) 0 0) (ys := []) ho1 (World.ownsRow_made w1 #[] 0 (Nat.le_refl _) (by unfold maxLen; omega) rfl) (Nat.le_refl _),
     (H.out.below hb1).below (bl_alloc (bl_refl _) _), only_alloc (only_below hb1) _, by simpa using hol, HRG.out, fun x hx => by simp at hx⟩
  clear ho1 hb1 hol
  go_loopw [1, 7, 8] (fun q r v wr => ∃ (q' : Int) (rs os : List Int) (A' : Option Addr) (c' : Nat), q = .int .i64 q' ∧ q' ≤ 1000 ∧ -1000 ≤ q' ∧ r = .slice A' rs.length c' ∧ rs.length ≤ 52 ∧ Hid (Deals w0 s a L c zs rs os (.slice A' rs.length c') v wr)) (fun q _ _ _ => (intOf q + 2000).toNat)
  case atStart => exact ⟨n, rs0, [], A1, c1, rfl, hn, hm, rfl, by have := HD.out.len; simp at this; omega, HD⟩
  case round =>
    obtain ⟨q, rs, os, A', c', rfl, hq1, hq2, rfl, hrl, hd⟩ := hrel
    have hlen := hd.out.len
    by_cases hq0 : 0 < q
    · by_cases hl : 0 < rs.length
      · obtain ⟨g, rfl, hlo, hg, hcap, hmax⟩ := own_some hd.out.rest hl
        have hl' : (0 : Int) < rs.length := by omega
        have KN := Lib.hid (next_pos s rs.length a L c zs wr (by omega) (by omega) hd.out.src)
        unfold maxLen at hmax
        go_wp2_with (first
          | (go_at_call 66; refine KN.out.mono ?_; rintro e w2 ⟨x, rfl, x0, x1, hs2, ho2⟩; obtain ⟨k, rfl⟩ := Int.eq_ofNat_of_zero_le x0; have hk : k < rs.length := (by omega); have D2 := Lib.hid (deals_next hd.out HS hs2 ho2); have hc2 := own_cell D2.out.rest k hk; clear hs2 ho2 x0 x1 hg)
          | (at_builtin; refine wpList_append_lies _ rfl _ _ 22 rfl w0.heap.size 2 i0 (.int .i64 0) 1 8 Tryd.underlying22 hi hz0 hz1 hz2 rfl (by decide) _ _ _ rfl (D2.out.out.alloc _) ⟨w2.heap.size, 0, none⟩ 1 1 [.int .i64 (nth rs k)] rfl rfl ?c1 ?c2 (Nat.succ_pos 0) ?c3 ?c4 ?c5 _ rfl ?_))
        case c1 =>
          intro j u hj
          match j, hj with
          | 0, hj => simp at hj; subst hj; simp [Addr.add]
        case c2 => intro u hu; simp at hu; subst hu; rfl
        case c3 => unfold maxLen; omega
        case c4 => omega
        case c5 => have := D2.out.only.size; simp; omega
        intro g2 cap2 w3 hown3 hgrow3 _ _
        have P3 := Lib.hid (deals_put D2.out HS HB.out (nth_mem rs k hk) hown3 hgrow3)
        clear hown3 hgrow3
        obtain ⟨A3, hA3, hnews⟩ := cut_at w3 g w0.heap.size c' k rs P3.out.rest hk
        have HN3 := Lib.hid hnews
        have hic : k ≤ c' := by omega
        have hwr : IntKind.i64.wrap ((k : Int) + 1) = (k : Int) + 1 := by rw [IntKind.wrap_i64]; omega
        have hp0 : (0 : Int) ≤ (k : Int) + 1 := by omega
        have hp1 : (k : Int) + 1 ≤ (rs.length : Int) := by omega
        have hp2 : ((k : Int) + 1).toNat = k + 1 := by omega
        have HOM : Hid (Own (w3.alloc (.cells #[] 2)) w3.heap.size (.slice (some ⟨w3.heap.size, 0, none⟩) 0 0) []) := Lib.hid (World.ownsRow_made w3 #[] 0 (Nat.le_refl _) (by unfold maxLen; omega) rfl)
        have HT1 : Hid ((rs.take k).length = k) := Lib.hid (by rw [List.length_take]; omega)
        have HT2 : Hid (∀ j u, (ints (rs.take k))[j]? = some u → (w3.alloc (.cells #[] 2)).cell? ((⟨g, 0, none⟩ : Addr).add j) = some u) := Lib.hid (take_cells _ g k rs hk (fun i hi => own_cell (P3.out.rest.below (bl_alloc (bl_refl _) _)) i hi))
        have HT3 : Hid (([] : List Int).length + (rs.take k).length ≤ 4000000) := Lib.hid (by rw [HT1.out]; simp; omega)
        have HT4 : Hid (w3.heap.size ≤ (w3.alloc (.cells #[] 2)).heap.size) := Lib.hid (by simp)
        have HT5 : Hid ((rs.drop (k + 1)).length = rs.length - (k + 1)) := Lib.hid (by rw [List.length_drop])
        have HT6 : Hid (∀ ws, Hid (ws = [] ++ rs.take k) → ws.length + (rs.drop (k + 1)).length ≤ 4000000) := Lib.hid (fun ws e => by rw [e.out, List.nil_append, HT1.out, HT5.out]; omega)
        have HT7 : Hid (∀ ws vs, Hid (ws = [] ++ rs.take k) → Hid (vs = ws ++ rs.drop (k + 1)) → vs.length = rs.length - 1) := Lib.hid (fun ws vs e e' => by rw [e'.out, e.out, List.nil_append, List.length_append, HT1.out, HT5.out]; omega)
        clear hnews
        go_wp2_with fail
        go_region_law (first
          | (refine step_cut rfl (.tmp 33) (.tmp 36) rfl w3.heap.size (.slice (some ⟨w3.heap.size, 0, none⟩) 0 0) [] (by simp [Act.eval]) HOM.out ⟨g, 0, none⟩ k c' (rs.take k) (by simp [Act.eval]) HT1.out HT2.out HT3.out HT4.out ?_
             intro A4 c4 ws4 w4 e4 ho4 hg4)
          | (refine step_cut rfl (.tmp 37) (.tmp 41) rfl w3.heap.size (.slice A4 ws4.length c4) ws4 ?q1 ho4 A3 (rs.length - (k + 1)) (c' - (k + 1)) (rs.drop (k + 1)) ?q2 HT5.out ?q3 ?q4 ?q5 ?q6
             case q1 => simp [Act.eval]
             case q2 => simp [Act.eval]
             case q3 => exact HN3.out _ (rest_cells (o := .cells #[] 2) P3.out.rest hg4 rfl)
             case q4 => exact HT6.out _ e4
             case q5 => exact Nat.le_trans HT4.out hg4.size
             intro A5 c5 ws5 w5 e5 ho5 hg5))
        have HWS := Lib.hid (HT7.out _ _ e4 e5)
        have HD5 : Hid (Deals w0 s a L c zs ws5 (os ++ [nth rs k]) (.slice A5 ws5.length c5) (.slice (some ⟨g2, 0, none⟩) (os.length + 1) cap2) w5) := Lib.hid (deals_cut P3.out HS HB.out (by repeat (first | exact bl_refl _ | apply bl_alloc | apply bl_drewN | apply bl_drew)) hg4 ho4 hg5 ho5 (by rw [HWS.out]; simp; omega) (fun x hx => by
          rw [e5.out, e4.out, List.nil_append] at hx
          rcases List.mem_append.1 hx with hx | hx
          · exact List.mem_of_mem_take hx
          · exact List.mem_of_mem_drop hx))
        clear HT1 HT2 HT3 HT4 HT5 HT6 HT7 HN3 HOM P3 D2 hwr hp0 hp1 hp2 hic hA3 e4 e5 ho4 hg4 ho5 hg5 hc2
        go_wp2_with fail
        go_roundw
        case rel => exact ⟨q - 1, ws5, os ++ [nth rs k], A5, c5, by go_num, by omega, by omega, rfl, by have := HWS.out; omega, HD5⟩
        case measure => simp [intOf]; omega
      · go_wp2_with fail
        obtain ⟨A2, c2, rfl, hO⟩ := own_form hd.out.out
        have HO := Lib.hid hO
        clear hO
        go_ret
        exact ⟨os, A2, c2, rfl, by omega, HO.out, hd.out.src, hd.out.only, hd.out.rng.2⟩
    · go_wp2_with fail
      obtain ⟨A2, c2, rfl, hO⟩ := own_form hd.out.out
      have HO := Lib.hid hO
      clear hO
      go_ret
      exact ⟨os, A2, c2, rfl, by omega, HO.out, hd.out.src, hd.out.only, hd.out.rng.2⟩

theorem deal_nilC (s : Nat) (n : Int) (a : Option Addr) (L c : Nat) (zs : Nat → Int) (w : World) (hn : n ≤ 1000) (hm : -1000 ≤ n) (h : Src w s a L c zs) :
    Calls Tryd.prog 93 #[.pointer (some ⟨s, 0, none⟩), .int .i64 n, .slice none 0 0] w (DrewC 52 w s a L c zs) :=
  deal_any s n none 0 [] a L c zs w hn hm (fun h0 => absurd h0 (by simp)) (by simp) h
theorem deal_nil (s : Nat) (n : Int) (a : Option Addr) (L c : Nat) (zs : Nat → Int) (w : World) (hn : n ≤ 1000) (hm : -1000 ≤ n) (h : Src w s a L c zs) :
    Calls Tryd.prog 93 #[.pointer (some ⟨s, 0, none⟩), .int .i64 n, .slice none 0 0] w (DrewL 52 w s a L c zs) :=
  (deal_nilC s n a L c zs w hn hm h).mono fun _ _ ⟨xs, A, cc, he, hl, ho, hs, hy, _⟩ => ⟨xs, A, cc, he, hl, ho, hs, hy⟩
end Go.Proofs.YtcbfmfkahgfjkaaDoor
