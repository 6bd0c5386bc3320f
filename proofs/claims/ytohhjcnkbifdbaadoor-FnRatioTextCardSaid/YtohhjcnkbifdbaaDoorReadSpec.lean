/-
  ReadRatio: the walk of the model's function.
-/
import Derived.Test.YtohhjcnkbifdbaaDoorSplit
import Derived.Test.YtohhjcnkbifdbaaDoorReadNum
import Derived.Test.YtohhjcnkbifdbaaDoorReadImpl
namespace Go.Proofs.YtohhjcnkbifdbaaDoor
open Go.RowKit
set_option linter.unusedVariables false

/-- What l01Split leaves: the pieces, in cells of its own. -/
def Cut (ps : List (List UInt8)) (w : World) (e : Ending) (w' : World) : Prop :=
  ∃ (g cap : Nat), e = .returned (.slice (some ⟨g, 0, none⟩) ps.length cap) ∧ ps.length ≤ cap ∧ w.heap.size ≤ g ∧ g < w'.heap.size ∧ (∀ (j : Nat) p, ps[j]? = some p → w'.cell? ⟨g, j, none⟩ = some (strV p)) ∧ Below w.heap.size w w'
theorem box_set {w W : World} {n d : Int} {b o : Nat} {u : Value} (h : W.cell? ⟨w.heap.size, 0, none⟩ = some (.int .i64 n) ∧ W.cell? ⟨w.heap.size, 1, none⟩ = some (.int .i64 d) ∧ Below w.heap.size w W) (hb : w.heap.size < b) :
    (W.setCell ⟨b, o, none⟩ u).cell? ⟨w.heap.size, 0, none⟩ = some (.int .i64 n) ∧ (W.setCell ⟨b, o, none⟩ u).cell? ⟨w.heap.size, 1, none⟩ = some (.int .i64 d) ∧ Below w.heap.size w (W.setCell ⟨b, o, none⟩ u) :=
  ⟨(World.cell?_setCell_other _ _ _ _ (fun e => by injection e with e; omega)).trans h.1, (World.cell?_setCell_other _ _ _ _ (fun e => by injection e with e; omega)).trans h.2.1, bl_set h.2.2 (Nat.le_of_lt hb) _⟩
theorem split_ne (l : List UInt8) : (splitL l).length ≠ 0 := by unfold splitL; simp
theorem split_of (l : List UInt8) (w : World) (hl : l.length ≤ 2000000) : Calls Tryd.prog 29 #[strV l, .int .u8 47] w (Cut (splitL l) w) :=
  (split_any ⟨l.toArray⟩ w hl).mono fun e w' ⟨v, he, hS⟩ => by
    unfold SplitAt at hS
    obtain ⟨hown, hb⟩ := hS
    rw [show (⟨l.toArray⟩ : ByteArray).data.toList = l from rfl, pcs_end] at hown
    obtain ⟨hlen, hv⟩ := hown
    rcases hv with ⟨_, h0⟩ | ⟨g, cap, cur, rfl, hg, hblk, hn, hc, hsz, hxs⟩
    · exact absurd h0 (split_ne l)
    · refine ⟨g, cap, he, hn, hg, (Array.getElem?_eq_some_iff.1 hblk).1, fun j p hp => ?_, hb⟩
      have h1 : (strs (splitL l))[j]? = some (strV p) := by simp [strs, hp]
      rw [← hxs] at h1
      have h2 : cur.toList[j]? = some (strV p) := by
        rw [List.getElem?_take] at h1
        split at h1
        · exact h1
        · cases h1
      simp [World.cell?, hblk]
      simpa using h2

theorem cut_one {p : List UInt8} {w : World} {e : Ending} {w' : World} (h : Cut [p] w e w') :
    ∃ (g cap : Nat), e = .returned (.slice (some ⟨g, 0, none⟩) 1 cap) ∧ w.heap.size ≤ g ∧ g < w'.heap.size ∧ w'.cell? ⟨g, 0, none⟩ = some (strV p) ∧ Below w.heap.size w w' := by
  obtain ⟨g, cap, he, _, h2, h3, h4, h5⟩ := h
  exact ⟨g, cap, he, h2, h3, h4 0 p rfl, h5⟩
theorem cut_two {p q : List UInt8} {w : World} {e : Ending} {w' : World} (h : Cut [p, q] w e w') :
    ∃ (g cap : Nat), e = .returned (.slice (some ⟨g, 0, none⟩) 2 cap) ∧ w.heap.size ≤ g ∧ g < w'.heap.size ∧ w'.cell? ⟨g, 0, none⟩ = some (strV p) ∧ w'.cell? ⟨g, 1, none⟩ = some (strV q) ∧ Below w.heap.size w w' := by
  obtain ⟨g, cap, he, _, h2, h3, h4, h5⟩ := h
  exact ⟨g, cap, he, h2, h3, h4 0 p rfl, h4 1 q rfl, h5⟩
theorem cut_more {p q d : List UInt8} {qs : List (List UInt8)} {w : World} {e : Ending} {w' : World} (h : Cut (p :: q :: (qs ++ [d])) w e w') :
    ∃ (g cap : Nat), e = .returned (.slice (some ⟨g, 0, none⟩) (qs.length + 3) cap) ∧ w.heap.size ≤ g ∧ g < w'.heap.size ∧ w'.cell? ⟨g, 0, none⟩ = some (strV p) ∧ Below w.heap.size w w' := by
  obtain ⟨g, cap, he, _, h2, h3, h4, h5⟩ := h
  refine ⟨g, cap, ?_, h2, h3, h4 0 p rfl, h5⟩
  rw [he]
  have e : (p :: q :: (qs ++ [d])).length = qs.length + 3 := by simp
  rw [e]

set_option maxRecDepth 100000 in
set_option maxHeartbeats 2000000 in
theorem specRead_one (l : List UInt8) (w : World) (hl : l.length ≤ 2000000) (h : Hid ((47 : UInt8) ∉ l)) :
    Calls Tryd.prog 11 #[strV l] w (ReadPost l w) := by
  have K1 : Hid (∀ W, Calls Tryd.prog 29 #[strV l, .int .u8 47] W (Cut [l] W)) := Lib.hid (fun W => by have := split_of l W hl; rwa [split_no l h.out] at this)
  have K2 := Lib.hid (fun W => signed_of l W hl)
  go_enter Tryd.func11, Tryd.ntmps11
  go_wp2_with (go_at_call 29; refine (K1.out _).mono ?_; intro e w1 hcut; obtain ⟨g, cap, rfl, hg0, hg1, hg2, hb1⟩ := cut_one hcut; clear hcut; obtain ⟨hc1, hf1⟩ := bcell hb1; have hz1 := sz_new hb1; have H1 := Lib.hid (box_call (box_new w 0 0 _) hb1))
  go_wp2_with (go_at_call 30; refine (K2.out _).mono ?_; rintro e w2 ⟨n, b, hs, rfl, hb2⟩; have hn0 := hs.1; have hn1 := hs.2.1; have HV := Lib.hid hs; clear hs; obtain ⟨hc2, hf2⟩ := bcell hb2; have hz2 := sz_old hz1 hb2; have H2 := Lib.hid (box_call H1.out hb2))
  go_wp2_with (go_at_call 18; refine (specText_any _ _ _).mono ?_; rintro e w3 ⟨rfl, hb3⟩; obtain ⟨hc3, hf3⟩ := bcell hb3; have hz3 := sz_new hb3; have hz4 := sz_old hz2 (bl_trans (bl_alloc (bl_refl _) _) hb3); have H3 := Lib.hid (box_call H2.out (bl_trans (bl_alloc (bl_refl _) _) hb3)))
  · have ht := beq_not (by assumption : (!textR n 1 == l) = true)
    exact bodyPost_ret (v := rdV 0 0 false) (by simp [results, Tryd.results11, go_sem, H3.out.1, H3.out.2.1]) rfl ⟨0, 0, false, one_no h.out HV.out (fun _ => ht), rfl, bl_set2 H3.out.2.2⟩
  · have ht := beq_of (by assumption : (!textR n 1 == l) = false)
    have hb : b = true := by assumption
    subst hb
    exact bodyPost_ret (v := rdV n 1 true) (by simp [results, Tryd.results11, go_sem, H3.out.1, H3.out.2.1]) rfl ⟨n, 1, true, read_eq (sgn_ne HV.out) ht, rfl, bl_set2 H3.out.2.2⟩
  · have hb : ¬ b = true := by assumption
    exact bodyPost_ret (v := rdV 0 0 false) (by simp [results, Tryd.results11, go_sem, H2.out.1, H2.out.2.1, World.cell?_alloc_past, hz2]) rfl ⟨0, 0, false, one_no h.out HV.out (fun h => absurd h hb), rfl, bl_alloc (bl_set2 H2.out.2.2) _⟩

set_option maxRecDepth 100000 in
set_option maxHeartbeats 2000000 in
theorem specRead_more (a b0 c : List UInt8) (w : World) (hl : (a ++ 47 :: (b0 ++ 47 :: c)).length ≤ 2000000) (h : Hid ((47 : UInt8) ∉ a)) (qs : List (List UInt8)) (q : List UInt8) (hq : Hid (splitL (a ++ 47 :: (b0 ++ 47 :: c)) = a :: b0 :: (qs ++ [q]))) (hm : qs.length ≤ 4000000) :
    Calls Tryd.prog 11 #[strV (a ++ 47 :: (b0 ++ 47 :: c))] w (ReadPost (a ++ 47 :: (b0 ++ 47 :: c)) w) := by
  obtain ⟨l, hl0⟩ : ∃ l, l = a ++ 47 :: (b0 ++ 47 :: c) := ⟨_, rfl⟩
  rw [← hl0]
  have HL := Lib.hid hl0
  have K1 : Hid (∀ W, Calls Tryd.prog 29 #[strV l, .int .u8 47] W (Cut (a :: b0 :: (qs ++ [q])) W)) := Lib.hid (fun W => by have := split_of _ W hl; rwa [hq.out, ← hl0] at this)
  have K2 := Lib.hid (fun W => signed_of a W (by simp at hl; omega))
  clear hl hl0
  have hm2 : ((qs.length + 3 : Int) == 2) = false := by simp; omega
  go_enter Tryd.func11, Tryd.ntmps11
  go_wp2_with (go_at_call 29; refine (K1.out _).mono ?_; intro e w1 hcut; obtain ⟨g, cap, rfl, hg0, hg1, hg2, hb1⟩ := cut_more hcut; clear hcut; obtain ⟨hc1, hf1⟩ := bcell hb1; have hz1 := sz_new hb1; have H1 := Lib.hid (box_call (box_new w 0 0 _) hb1))
  go_wp2_with (go_at_call 30; refine (K2.out _).mono ?_; rintro e w2 ⟨n, b, hs, rfl, hb2⟩; have hn0 := hs.1; have hn1 := hs.2.1; have HV := Lib.hid hs; clear hs; obtain ⟨hc2, hf2⟩ := bcell hb2; have hz2 := sz_old hz1 hb2; have H2 := Lib.hid (box_call H1.out hb2))
  go_wp2_with (go_at_call 18; refine (specText_any _ _ _).mono ?_; rintro e w3 ⟨rfl, hb3⟩; obtain ⟨hc3, hf3⟩ := bcell hb3; have hz3 := sz_new hb3; have hz4 := sz_old hz2 (bl_trans (bl_alloc (bl_refl _) _) hb3); have H3 := Lib.hid (box_call H2.out (bl_trans (bl_alloc (bl_refl _) _) hb3)))
  · exact bodyPost_ret (v := rdV 0 0 false) (by simp [results, Tryd.results11, go_sem, H3.out.1, H3.out.2.1]) rfl ⟨0, 0, false, by rw [HL.out]; exact more_no h.out, rfl, bl_set2 H3.out.2.2⟩
  · have ht := beq_of (by assumption : (!textR n 1 == l) = false)
    exact bodyPost_ret (v := rdV n 1 true) (by simp [results, Tryd.results11, go_sem, H3.out.1, H3.out.2.1]) rfl ⟨n, 1, true, read_eq (by rw [HL.out]; exact cut_ne _ _) ht, rfl, bl_set2 H3.out.2.2⟩
  · exact bodyPost_ret (v := rdV 0 0 false) (by simp [results, Tryd.results11, go_sem, H2.out.1, H2.out.2.1, World.cell?_alloc_past, hz2]) rfl ⟨0, 0, false, by rw [HL.out]; exact more_no h.out, rfl, bl_alloc (bl_set2 H2.out.2.2) _⟩

set_option maxRecDepth 100000 in
set_option maxHeartbeats 2000000 in
theorem specRead_two (a c : List UInt8) (w : World) (hl : (a ++ 47 :: c).length ≤ 2000000) (h : Hid ((47 : UInt8) ∉ a)) (h' : Hid ((47 : UInt8) ∉ c)) :
    Calls Tryd.prog 11 #[strV (a ++ 47 :: c)] w (ReadPost (a ++ 47 :: c) w) := by
  obtain ⟨l, hl0⟩ : ∃ l, l = a ++ 47 :: c := ⟨_, rfl⟩
  rw [← hl0]
  have HL := Lib.hid hl0
  have K1 : Hid (∀ W, Calls Tryd.prog 29 #[strV l, .int .u8 47] W (Cut [a, c] W)) := Lib.hid (fun W => by have := split_of _ W hl; rwa [split_one a c h.out h'.out, ← hl0] at this)
  have K2 := Lib.hid (fun W => signed_of a W (by simp at hl; omega))
  have K3 := Lib.hid (fun W => value_of c W)
  clear hl hl0
  go_enter Tryd.func11, Tryd.ntmps11
  go_wp2_with (go_at_call 29; refine (K1.out _).mono ?_; intro e w1 hcut; obtain ⟨g, cap, rfl, hg0, hg1, hg2, hg3, hb1⟩ := cut_two hcut; clear hcut; obtain ⟨hc1, hf1⟩ := bcell hb1; have hz1 := sz_new hb1; have H1 := Lib.hid (box_call (box_new w 0 0 _) hb1))
  go_wp2_with (go_at_call 30; refine (K2.out _).mono ?_; rintro e w2 ⟨n, b, hs, rfl, hb2⟩; have hn0 := hs.1; have hn1 := hs.2.1; have HV := Lib.hid hs; clear hs; obtain ⟨hc2, hf2⟩ := bcell hb2; have hz2 := sz_old hz1 hb2; have H2 := Lib.hid (box_call H1.out hb2); have hg4 := sz_old hg1 hb2)
  go_wp2_with (go_at_call 31; refine (K3.out _).mono ?_; rintro e w4 ⟨d, b', hs', rfl, hb4⟩; have hd0 := hs'.1; have hd1 := hs'.2.1; have HW := Lib.hid hs'; clear hs'; obtain ⟨hc4, hf4⟩ := bcell hb4; have hz5 := sz_new hb4; have hz6 := sz_old hz2 (bl_trans (bl_alloc (bl_refl _) _) hb4); have H4 := Lib.hid (box_call H2.out (bl_trans (bl_alloc (bl_refl _) _) hb4)))
  go_wp2_with (go_at_call 18; refine (specText_any _ _ _).mono ?_; rintro e w5 ⟨rfl, hb5⟩; obtain ⟨hc5, hf5⟩ := bcell hb5)
  · have ht := beq_not (by assumption : (!textR n d == l) = true)
    have H5 := box_call (box_set H4.out hz2) hb5
    exact bodyPost_ret (v := rdV 0 0 false) (by simp [results, Tryd.results11, go_sem, H5.1, H5.2.1]) rfl ⟨0, 0, false, by rw [HL.out] at ht ⊢; exact two_no h.out HV.out HW.out (fun _ _ => ht), rfl, bl_set2 H5.2.2⟩
  · have ht := beq_of (by assumption : (!textR n d == l) = false)
    have H5 := box_call (box_set H4.out hz2) hb5
    exact bodyPost_ret (v := rdV n d true) (by simp [results, Tryd.results11, go_sem, H5.1, H5.2.1]) rfl ⟨n, d, true, read_eq (by rw [HL.out]; exact cut_ne _ _) ht, rfl, bl_set2 H5.2.2⟩
  · have hb : ¬ b' = true := by assumption
    have H5 := box_set (o := 1) (u := .int .i64 d) H4.out hz2
    exact bodyPost_ret (v := rdV 0 0 false) (by simp [results, Tryd.results11, go_sem, H5.1, H5.2.1]) rfl ⟨0, 0, false, by rw [HL.out]; exact two_no h.out HV.out HW.out (fun _ h => absurd h hb), rfl, bl_set2 H5.2.2⟩
  · have hb : ¬ b = true := by assumption
    have H5 := box_set (o := 1) (u := .int .i64 d) H4.out hz2
    exact bodyPost_ret (v := rdV 0 0 false) (by simp [results, Tryd.results11, go_sem, H5.1, H5.2.1]) rfl ⟨0, 0, false, by rw [HL.out]; exact two_no h.out HV.out HW.out (fun h => absurd h hb), rfl, bl_set2 H5.2.2⟩

/-- ReadRatio's model answers the valid ratio with the text, or none. -/
theorem specRead_any (l : List UInt8) (w : World) (hl : l.length ≤ 2000000) : Calls Tryd.prog 11 #[strV l] w (ReadPost l w) := by
  rcases slash_or l with h | ⟨a, b, rfl, h⟩
  · exact specRead_one l w hl (Lib.hid h)
  · rcases slash_or b with h' | ⟨b, c, rfl, h'⟩
    · exact specRead_two a b w hl (Lib.hid h) (Lib.hid h')
    · obtain ⟨qs, q, hq⟩ := split_more a b c h h'
      have := split_len (a ++ 47 :: (b ++ 47 :: c))
      rw [hq] at this
      exact specRead_more a b c w hl (Lib.hid h) qs q (Lib.hid hq) (by simp at this hl; omega)
end Go.Proofs.YtohhjcnkbifdbaaDoor
