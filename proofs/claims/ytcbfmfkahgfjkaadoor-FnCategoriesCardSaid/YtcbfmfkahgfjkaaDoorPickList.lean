/-
  l02Pick: a list in another order.
-/
import Derived.Test.YtcbfmfkahgfjkaaDoorDealP
import Derived.Test.YtcbfmfkahgfjkaaDoorNewRows
namespace Go.Proofs.YtcbfmfkahgfjkaaDoor
open Go.RowKit
set_option linter.unusedVariables false

/-- What l02Pick leaves: the same numbers. -/
def PermL (bs : List Int) (w : World) (s : Nat) (a : Option Addr) (L c : Nat) (zs : Nat → Int) (e : Ending) (w' : World) : Prop :=
  ∃ (xs : List Int) (A : Option Addr) (cc : Nat), e = .returned (.slice A xs.length cc) ∧ Own w' w.heap.size (.slice A xs.length cc) xs ∧ Src w' s a L c zs ∧ Only s w w' ∧ xs.Perm bs
theorem rd_only {w w' : World} {s : Nat} {A : Option Addr} {xs : List Int} (h : Rd w A xs) (ho : Only s w w') (hne : ∀ a, A = some a → a.block ≠ s) : Rd w' A xs := fun h0 => by
  obtain ⟨b, off, e, hc⟩ := h h0
  exact ⟨b, off, e, fun i hi => (only_cell ho (World.block_lt_of_cell? w _ (hc i hi)) (hne ⟨b, off, none⟩ e)).trans (hc i hi)⟩
theorem rd_grown {w w' : World} {A : Option Addr} {xs : List Int} {row : Option Nat} (h : Rd w A xs) (hg : w.grownBy w' row) (hne : ∀ a, A = some a → some a.block ≠ row) : Rd w' A xs := fun h0 => by
  obtain ⟨b, off, e, hc⟩ := h h0
  exact ⟨b, off, e, fun i hi => (World.cell?_of_block (a := ⟨b, off + i, none⟩) (hg.block b (World.block_lt_of_cell? w _ (hc i hi)) (hne ⟨b, off, none⟩ e))).trans (hc i hi)⟩
/-- What the picking loop keeps. -/
structure Picks (w : World) (s : Nat) (a : Option Addr) (L c : Nat) (zs : Nat → Int) (os : List Int) (v : Value) (wr : World) : Prop where
  out : Own wr w.heap.size v os
  src : Src wr s a L c zs
  only : Only s w wr
theorem Picks.next {w wr w1 : World} {s : Nat} {a : Option Addr} {L c : Nat} {zs : Nat → Int} {os : List Int} {v : Value} (h : Picks w s a L c zs os v wr) (hs : s < w.heap.size) (hsrc : Src w1 s a L c zs) (ho : Only s wr w1) : Picks w s a L c zs os v w1 :=
  ⟨own_only h.out ho hs, hsrc, only_trans h.only ho⟩
theorem ins_perm {xs os : List Int} {i k : Nat} (hi : i < xs.length) (h : os.Perm (xs.take i)) : ((os.take k ++ [nth xs i]) ++ os.drop k).Perm (xs.take (i + 1)) := by
  have e : xs.take (i + 1) = xs.take i ++ [nth xs i] := by rw [take_nth xs i hi]
  rw [e, List.append_assoc]
  show (os.take k ++ nth xs i :: os.drop k).Perm _
  refine List.perm_middle.trans ?_
  rw [List.take_append_drop]
  exact (h.cons _).trans (List.perm_append_singleton _ _).symm
set_option maxRecDepth 100000 in
set_option maxHeartbeats 4000000 in
theorem pickList_any (s : Nat) (B : Option Addr) (cB : Nat) (bs : List Int) (a : Option Addr) (L c : Nat) (zs : Nat → Int) (w : World) (hr : Rd w B bs) (hne : ∀ x, B = some x → x.block ≠ s) (hbl : bs.length ≤ 100) (h : Src w s a L c zs) :
    Calls Tryd.prog 67 #[.pointer (some ⟨s, 0, none⟩), .slice B bs.length cB] w (PermL bs w s a L c zs) := by
  have HS := src_lt h
  have HB := Lib.hid (codeB_of h)
  have H := Lib.hid h
  have HR := Lib.hid hr
  have HNE := Lib.hid hne
  clear h hr hne
  obtain ⟨w0, rfl⟩ : ∃ w0 : World, w0 = w := ⟨w, rfl⟩
  go_enter Tryd.func67, Tryd.ntmps67
  go_wp2_with fail
  have HP0 : Hid (Picks w0 s a L c zs [] (.slice (some ⟨w0.heap.size, 0, none⟩) 0 0) (w0.alloc (.cells #[] 2))) := Lib.hid ⟨World.ownsRow_made w0 #[] 0 (Nat.le_refl _) (by unfold maxLen; omega) rfl, H.out.below (bl_alloc (bl_refl _) _), only_alloc (only_refl _ _) _⟩
  go_loopw [5, 6] (fun v i wr => ∃ (m : Nat) (os : List Int) (g c' : Nat), m ≤ bs.length ∧ os.length = m ∧ v = .slice (some ⟨g, 0, none⟩) m c' ∧ i = .int .i64 m ∧ Hid (Picks w0 s a L c zs os (.slice (some ⟨g, 0, none⟩) os.length c') wr) ∧ Hid (os.Perm (bs.take m))) (fun _ i _ => bs.length - (intOf i).toNat)
  case atStart => exact ⟨0, [], w0.heap.size, 0, Nat.zero_le _, rfl, rfl, rfl, HP0, Lib.hid (by simp)⟩
  case round =>
    obtain ⟨m, os, g, c', hm, hl, rfl, rfl, hp, hpm⟩ := hrel
    by_cases hlt : m < bs.length
    · have hlt' : (m : Int) < bs.length := by omega
      have KN := Lib.hid (next_pos s ((m : Int) + 1) a L c zs wr (by omega) (by omega) hp.out.src)
      obtain ⟨b, off, rfl, hc0⟩ := HR.out (by omega)
      go_wp2_with (go_at_call 66; refine KN.out.mono ?_; rintro e w2 ⟨x, rfl, x0, x1, hs2, ho2⟩; obtain ⟨k, rfl⟩ := Int.eq_ofNat_of_zero_le x0; have hk : k ≤ m := (by omega); have P2 := Lib.hid (hp.out.next HS hs2 ho2); clear hs2 ho2 x0 x1)
      have hcx : w2.cell? ⟨b, off + m, none⟩ = some (.int .i64 (nth bs m)) := (only_cell P2.out.only (World.block_lt_of_cell? w0 _ (hc0 m hlt)) (HNE.out ⟨b, off, none⟩ rfl)).trans (hc0 m hlt)
      have hcap := own_cap P2.out.out
      have hsl := run_sliceFrom g 0 m c' k hk
      have hst := run_sliceTo g 0 m c' k (by omega)
      generalize hxx : nth bs m = x at *
      have EXX := Lib.hid hxx
      clear hxx
      have hcx1 : (w2.alloc (.cells #[] 2)).cell? ⟨b, off + m, none⟩ = some (.int .i64 x) := ((bl_alloc (bl_refl w2) _).cell (p := ⟨b, off + m, none⟩) (World.block_lt_of_cell? w2 _ hcx)).trans hcx
      have HX := Lib.hid hcx
      have S0 := Lib.hid (bl_drew (bl_alloc (bl_refl w2) (.cells #[] 2)))
      have S1 := Lib.hid (bl_drew (bl_alloc (bl_alloc (bl_refl w2) (.cells #[] 2)) (.cells #[.int .i64 x] 2)))
      have S2 := Lib.hid (bl_drew (bl_alloc (bl_alloc (bl_refl w2) (.cells #[.int .i64 x] 2)) (.cells #[] 2)))
      have O0 := Lib.hid (Own.below (own_new w2) (bl_drew (bl_refl _)))
      have O1 := Lib.hid (Own.below (own_new w2) (bl_drew (bl_alloc (bl_refl _) (.cells #[.int .i64 x] 2))))
      have O2 : Hid (Own ((w2.alloc (.cells #[.int .i64 x] 2)).alloc (.cells #[] 2)).drew w2.heap.size (.slice (some ⟨w2.heap.size + 1, 0, none⟩) 0 0) []) := Lib.hid (by
        have := own_new (w2.alloc (.cells #[.int .i64 x] 2))
        rw [World.size_alloc] at this
        exact (Own.below this (bl_drew (bl_refl _))).less (by omega))
      have R1 : Hid (Rd ((w2.alloc (.cells #[] 2)).alloc (.cells #[.int .i64 x] 2)).drew (some ⟨w2.heap.size + 1, 0, none⟩) [x]) := Lib.hid (by
        have := rd_new1 (w2.alloc (.cells #[] 2)) x
        rw [World.size_alloc] at this
        exact this.below (bl_drew (bl_refl _)))
      have R2 : Hid (Rd ((w2.alloc (.cells #[.int .i64 x] 2)).alloc (.cells #[] 2)).drew (some ⟨w2.heap.size, 0, none⟩) [x]) := Lib.hid ((rd_new1 w2 x).below (bl_drew (bl_alloc (bl_refl _) _)))
      have TK := Lib.hid (fun (W : World) (hb : Below w2.heap.size w2 W) => rd_to (n := k) (P2.out.out.rd.below hb))
      have DR := Lib.hid (fun (W : World) (hb : Below w2.heap.size w2 W) => rd_from (n := k) (c := c') (P2.out.out.rd.below hb) (.inl hcap))
      have LT : Hid ((os.take k).length = k) := Lib.hid (by rw [List.length_take]; omega)
      have LD : Hid ((os.drop k).length = m - k) := Lib.hid (by rw [List.length_drop]; omega)
      have L1 : Hid (([] : List Int).length + (os.take k).length ≤ 4000000) := Lib.hid (by rw [LT.out]; simp; omega)
      have GB : Hid (g < w2.heap.size) := Lib.hid (World.ownsRow.lt P2.out.out g rfl).2
      have BB : Hid (b < w2.heap.size) := Lib.hid (World.block_lt_of_cell? w2 _ hcx)
      clear hc0
      go_region_law? (first
        | (refine step_glue rfl (.tmp 20) (.tmp 23) rfl w2.heap.size (.slice (some ⟨w2.heap.size, 0, none⟩) 0 0) [] (os.take k) (some ⟨g, 0, none⟩) c' (by simp [Act.eval]) O0.out (by rw [LT.out]; simp [Act.eval]) (TK.out _ S0.out) L1.out S0.out.size ?_
           intro A4 c4 ws4 w4 e4 ho4 hg4 hv4
           have S4 := Lib.hid (bl_app S0.out O0.out (Nat.le_refl _) hg4)
           have hx4 : w4.cell? ⟨b, off + m, none⟩ = some (.int .i64 x) := (S4.out.cell (p := ⟨b, off + m, none⟩) BB.out).trans HX.out
           have O4 := Lib.hid (Own.below ho4 (bl_alloc (bl_refl _) (.cells #[.int .i64 x] 2)))
           have RX := Lib.hid (rd_new1 w4 x)
           have S5 := Lib.hid (bl_alloc S4.out (.cells #[.int .i64 x] 2)))
        | (refine step_glue rfl (.tmp 20) (.tmp 23) rfl w2.heap.size (.slice (some ⟨w2.heap.size, 0, none⟩) 0 0) [] (os.take k) (some ⟨g, 0, none⟩) c' (by simp [Act.eval]) O1.out (by rw [LT.out]; simp [Act.eval]) (TK.out _ S1.out) L1.out S1.out.size ?_
           intro A4 c4 ws4 w4 e4 ho4 hg4 hv4
           have S4 := Lib.hid (bl_app S1.out O1.out (Nat.le_refl _) hg4)
           have O4 := Lib.hid ho4
           have RX := Lib.hid (rd_grown R1.out hg4 (fun a e => by obtain rfl := Option.some.inj e; simp [Value.ownBlock]))
           have S5 := Lib.hid S4.out)
        | (refine step_glue rfl (.tmp 20) (.tmp 23) rfl w2.heap.size (.slice (some ⟨w2.heap.size + 1, 0, none⟩) 0 0) [] (os.take k) (some ⟨g, 0, none⟩) c' (by simp [Act.eval]) O2.out (by rw [LT.out]; simp [Act.eval]) (TK.out _ S2.out) L1.out S2.out.size ?_
           intro A4 c4 ws4 w4 e4 ho4 hg4 hv4
           have S4 := Lib.hid (bl_app S2.out O2.out (Nat.le_refl _) hg4)
           have O4 := Lib.hid ho4
           have RX := Lib.hid (rd_grown R2.out hg4 (fun a e => by obtain rfl := Option.some.inj e; simp [Value.ownBlock]))
           have S5 := Lib.hid S4.out)
        | (refine step_glue rfl (.tmp 24) (.tmp 29) rfl w2.heap.size (.slice A4 ws4.length c4) ws4 [x] _ 1 (by simp [Act.eval]) O4.out (by simp [Act.eval]) RX.out (by rw [e4.out, List.nil_append, LT.out]; simp; omega) S5.out.size ?_
           intro A5 c5 ws5 w5 e5 ho5 hg5 hv5
           have S6 := Lib.hid (bl_app S5.out O4.out (Nat.le_refl _) hg5)
           have L5 : Hid (ws5.length = k + 1) := Lib.hid (by rw [e5.out, e4.out, List.nil_append, List.length_append, LT.out]; rfl))
        | (refine step_glue rfl (.tmp 30) (.tmp 33) rfl w2.heap.size (.slice A5 ws5.length c5) ws5 (os.drop k) (fromAt g 0 c' k) (c' - k) (by simp [Act.eval]) ho5 (by rw [LD.out]; simp [Act.eval]) (DR.out _ S6.out) (by rw [L5.out, LD.out]; omega) S6.out.size ?_
           intro A6 c6 ws6 w6 e6 ho6 hg6 hv6
           have S7 := Lib.hid (bl_app S6.out ho5 (Nat.le_refl _) hg6)))
      all_goals
        have E6 : Hid (ws6 = (os.take k ++ [x]) ++ os.drop k) := Lib.hid (by rw [e6.out, e5.out, e4.out, List.nil_append])
        have L6 : Hid (ws6.length = m + 1) := Lib.hid (by rw [e6.out, List.length_append, L5.out, LD.out]; omega)
        have PM : Hid (ws6.Perm (bs.take (m + 1))) := Lib.hid (by rw [E6.out, ← EXX.out]; exact ins_perm hlt hpm.out)
        obtain ⟨g6, rfl, _⟩ := own_some ho6 (by rw [L6.out]; omega)
        have P3 : Hid (Picks w0 s a L c zs ws6 (.slice (some ⟨g6, 0, none⟩) ws6.length c6) w6) := Lib.hid ⟨ho6.less P2.out.only.size, P2.out.src.below S7.out, only_trans P2.out.only (only_below S7.out)⟩
        rw [L6.out]
        clear ho6 hg6 hv6 ho5 hg5 hv5 ho4 hg4 hv4
        go_wp2_with fail
        go_roundw
        case rel => exact ⟨m + 1, ws6, g6, c6, by omega, L6.out, rfl, by go_num, P3, PM⟩
        case measure => simp [intOf]; omega
    · obtain rfl : m = bs.length := by omega
      have PB : Hid (os.Perm bs) := Lib.hid (by have := hpm.out; rwa [List.take_length] at this)
      go_wp2_with fail
      go_ret
      rw [← hl]
      exact ⟨os, some ⟨g, 0, none⟩, c', rfl, hp.out.out, hp.out.src, hp.out.only, PB.out⟩
end Go.Proofs.YtcbfmfkahgfjkaaDoor
