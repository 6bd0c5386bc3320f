/-
  The program's best badugi of some size.
-/
import Derived.Test.YtajkgnheijhbpaaIterS
import Derived.Test.YtajkgnheijhbpaaBadCmp
import Derived.Test.YtajkgnheijhbpaaBadPure
import Derived.Test.YtajkgnheijhbpaaIter
import Derived.Test.YtajkgnheijhbpaaBase
import Derived.WalkSpells
namespace Go.Proofs.Ytajkgnheijhbpaa
open Go.RowKit
set_option linter.unusedVariables false
attribute [local go_sem] Oper.semAt_some

theorem chS_len (s : Nat) (os : List Int) (h : os.length = 4) : (ch s os).length = (idxS s).length := by rw [ch_idxS s os h, List.length_map]
theorem chS_at (s : Nat) (os : List Int) (h : os.length = 4) (i : Nat) (hi : i < (idxS s).length) : (ch s os).getD i [] = pickL os ((idxS s).getD i []) := by
  rw [ch_idxS s os h, List.getD_eq_getElem?_getD, List.getD_eq_getElem?_getD, List.getElem?_map, List.getElem?_eq_getElem hi]
  rfl
theorem chS_mem (s : Nat) (os : List Int) (h : os.length = 4) (i : Nat) (hi : i < (idxS s).length) : (ch s os).getD i [] ∈ ch s os := by
  have hi' : i < (ch s os).length := by rw [chS_len s os h]; exact hi
  rw [List.getD_eq_getElem?_getD, List.getElem?_eq_getElem hi']
  exact List.getElem_mem _
/-- The best so far: nil, or a block of its own. -/
def BestV (L : List (List Int)) (i s lo : Nat) (v : Value) (W : World) : Prop :=
  (bst L i = none ∧ v = .slice none 0 0) ∨ ∃ b g, bst L i = some b ∧ lo ≤ g ∧ v = .slice (some ⟨g, 0, none⟩) s s ∧ Blk W g 2 (ints b)
theorem BestV.grown {L : List (List Int)} {i s lo : Nat} {v : Value} {A B : World} {k : Nat} (h : BestV L i s lo v A) (hg : A.grownBy B (some k)) (hk : k < lo) : BestV L i s lo v B := by
  rcases h with h | ⟨b, g, h1, h2, h3, h4⟩
  · exact .inl h
  · exact .inr ⟨b, g, h1, h2, h3, h4.grown hg (fun e => by have := Option.some.inj e; omega)⟩
/-- What the loop's rounds keep. -/
def BadSt (w : World) (A : Option Addr) (c : Nat) (os : List Int) (s i : Nat) (W : World) : Prop :=
  Blk W w.heap.size 24 [.slice A 4 c] ∧ Blk W (w.heap.size + 1 + 1) 3 (ints [4]) ∧ Blk W (w.heap.size + 1 + 1 + 1) 3 (ints [(s : Int)]) ∧ Below w.heap.size w W ∧
  ∃ v, Blk W (w.heap.size + 1) 24 [v] ∧ BestV (ch s os) i s (w.heap.size + 7) v W
theorem BadSt.keep {w A B : World} {Ad : Option Addr} {c : Nat} {os : List Int} {s i k : Nat} (h : BadSt w Ad c os s i A) (hg : A.grownBy B (some k)) (hk : w.heap.size + 4 ≤ k) (hk2 : k < w.heap.size + 7) : BadSt w Ad c os s i B := by
  obtain ⟨h1, h2, h3, h4, v, h5, h6⟩ := h
  have up : ∀ {g : Nat} {t : TypeId} {vs : List Value}, Blk A g t vs → g < w.heap.size + 4 → Blk B g t vs := fun hq hl => hq.grown hg (fun e => by have := Option.some.inj e; omega)
  exact ⟨up h1 (by omega), up h2 (by omega), up h3 (by omega), bl_blk h4 hg (by omega), v, up h5 (by omega), h6.grown hg hk2⟩
theorem bad_start (w : World) (A : Option Addr) (c : Nat) (os : List Int) (s : Nat) :
    BadSt w A c os s 0 ((((w.alloc (.cells #[.slice A 4 c] 24)).alloc (.cells #[.slice none 0 0] 24)).alloc (.cells #[.int .i64 4] 3)).alloc (.cells #[.int .i64 s] 3)) := by
  obtain ⟨o0, e0⟩ : ∃ o, o = Obj.cells #[Value.slice A 4 c] 24 := ⟨_, rfl⟩
  obtain ⟨o1, e1⟩ : ∃ o, o = Obj.cells #[Value.slice none 0 0] 24 := ⟨_, rfl⟩
  obtain ⟨o2, e2⟩ : ∃ o, o = Obj.cells #[Value.int .i64 4] 3 := ⟨_, rfl⟩
  obtain ⟨o3, e3⟩ : ∃ o, o = Obj.cells #[Value.int .i64 s] 3 := ⟨_, rfl⟩
  rw [← e0, ← e1, ← e2, ← e3]
  have up : ∀ (W : World) (o : Obj) {g : Nat} {t : TypeId} {vs : List Value}, Blk W g t vs → Blk (W.alloc o) g t vs := fun W o _ _ _ h => h.below (bl_alloc (bl_refl W) o)
  have n0 : Blk (w.alloc o0) w.heap.size 24 [.slice A 4 c] := by rw [e0]; exact blk_new w _ _
  have n1 : Blk ((w.alloc o0).alloc o1) (w.heap.size + 1) 24 [.slice none 0 0] := by
    have := blk_new (w.alloc o0) 24 [.slice none 0 0]; rw [World.size_alloc] at this; rw [e1]; exact this
  have n2 : Blk (((w.alloc o0).alloc o1).alloc o2) (w.heap.size + 1 + 1) 3 (ints [4]) := by
    have := blk_new ((w.alloc o0).alloc o1) 3 (ints [4]); rw [World.size_alloc, World.size_alloc] at this; rw [e2]; exact this
  have n3 : Blk ((((w.alloc o0).alloc o1).alloc o2).alloc o3) (w.heap.size + 1 + 1 + 1) 3 (ints [(s : Int)]) := by
    have := blk_new (((w.alloc o0).alloc o1).alloc o2) 3 (ints [(s : Int)]); rw [World.size_alloc, World.size_alloc, World.size_alloc] at this; rw [e3]; exact this
  exact ⟨up _ _ (up _ _ (up _ _ n0)), up _ _ n2, n3, bl_alloc (bl_alloc (bl_alloc (bl_alloc (bl_refl w) _) _) _) _, _, up _ _ (up _ _ n1), .inl ⟨rfl, rfl⟩⟩
/-- What bestBadugi leaves. -/
def BestB (L : List (List Int)) (s : Nat) (w : World) (e : Ending) (w' : World) : Prop :=
  ∃ v, e = .returned v ∧ BestV L L.length s w.heap.size v w' ∧ Below w.heap.size w w'
set_option maxRecDepth 100000 in
set_option maxHeartbeats 1500000 in
theorem bestBad_any (A : Option Addr) (c : Nat) (os : List Int) (s : Nat) (w : World) (hr : Rd w A os) (h4 : os.length = 4) (hs1 : 1 ≤ s) (hs4 : s ≤ 4) (hc : ∀ x ∈ os, 0 ≤ x ∧ x < 52) (hf : falls os) :
    Calls Try.prog 82 #[.slice A 4 c, .int .i64 s] w (BestB (ch s os) s w) := by
  have HR := Lib.hid hr
  have HC := Lib.hid hc
  have HF := Lib.hid hf
  have H4 := Lib.hid h4
  have hnn : ∀ W : World, (binOp .eql 24 (.slice none 0 0) (.slice none 0 0)).run Try.prog W = .ok (.bool true) W := fun W => Lib.run_eql_slice_nil (w := W) (P := Try.prog) 24 2 none 0 0 0 0 Try.underlying24
  have hns : ∀ (g n c : Nat) (W : World), (binOp .eql 24 (.slice (some ⟨g, 0, none⟩) n c) (.slice none 0 0)).run Try.prog W = .ok (.bool false) W := fun g n c W => Lib.run_eql_slice_nil (w := W) (P := Try.prog) 24 2 (some ⟨g, 0, none⟩) n c 0 0 Try.underlying24
  have HS1 := Lib.hid hs1
  have HS4 := Lib.hid hs4
  clear hr hc hf
  clear h4
  refine (callsIn_wide (n := 3)).1 ?_
  refine callsIn_of_wp_marks Try.func82 rfl trivial ?_ rfl
  simp only [Try.ntmps82, List.size_toArray, List.length_cons, List.length_nil, Nat.reduceAdd, Nat.reduceSub, Array.replicate_succ, Array.replicate_zero, List.push_toArray, List.append_toArray, List.nil_append, List.cons_append]
  obtain ⟨w0, rfl⟩ : ∃ w0 : World, w0 = w := ⟨w, rfl⟩
  gi_wp2_with (refine ⟨trivial, ?_⟩; gi_at_call 97; refine (callsIn_wide.2 (choicesOfS_any 4 (s : Int) _)).mono ?_; rintro e w1 ⟨rfl, rfl⟩)
  have HS := Lib.hid (bad_start w0 A c os s)
  have hz : ((((w0.alloc (.cells #[.slice A 4 c] 24)).alloc (.cells #[.slice none 0 0] 24)).alloc (.cells #[.int .i64 4] 3)).alloc (.cells #[.int .i64 s] 3)).heap.size = w0.heap.size + 1 + 1 + 1 + 1 := by simp
  obtain ⟨W0, eW⟩ : ∃ W0, W0 = ((((w0.alloc (.cells #[.slice A 4 c] 24)).alloc (.cells #[.slice none 0 0] 24)).alloc (.cells #[.int .i64 4] 3)).alloc (.cells #[.int .i64 s] 3)) := ⟨_, rfl⟩
  rw [← eW] at HS hz
  rw [← eW]
  clear eW
  refine wpIn_range_runK rfl (by omega) (gf := 118) (lb := #[.pointer (some ⟨w0.heap.size + 1 + 1 + 1, 0, none⟩), .pointer (some ⟨w0.heap.size + 1 + 1, 0, none⟩)]) rfl trivial (enters_of Try.func118 (by kernel_rfl) rfl)
    (iterS_any 2 s (w0.heap.size + 1 + 1 + 1) (w0.heap.size + 1 + 1) hs1 hs4 (BadSt w0 A c os s) W0 (by omega) (fun i W h => ⟨(h.2.2.1.cell 0 _ rfl).1, (h.2.1.cell 0 _ rfl).1⟩))
    (fun gb => rfl) (fun i A' B' k h h1 h2 hb => h.keep hb (by omega) (by omega)) (fun i gb A' B' h he => he.trans h) HS.out
    (fun gb => { tmps := #[.slice A 4 c, .int .i64 s, .pointer (some ⟨w0.heap.size, 0, none⟩), undef, .slice none 0 0, .pointer (some ⟨w0.heap.size + 1, 0, none⟩), .slice (some ⟨gb, 0, none⟩) s s, undef, .slice A 4 c, .int .i64 4, .int .i64 s,
      .func (.func 118) #[] #[.pointer (some ⟨w0.heap.size + 1 + 1 + 1, 0, none⟩), .pointer (some ⟨w0.heap.size + 1 + 1, 0, none⟩)], .slice (some ⟨gb, 0, none⟩) s s, undef, undef, undef, undef, undef, undef, undef, undef, undef, undef, undef, undef, undef, undef, undef, undef, undef], defers := [] }) ?assign ?body ?done (fun i gb W h => Blk.lt h)
  case assign =>
    intro l gb W K hK
    gi_wp2
    exact hK
  case body =>
    intro l i gb W hi hI hC hgb hgb2
    have HI := Lib.hid hI
    have HCh := Lib.hid hC
    have hm := chS_mem s os H4.out i hi
    obtain ⟨hsub, hln⟩ := ch_mem s os _ hm
    obtain ⟨hl5, hxb, _⟩ := idxS_facts s hs1 hs4 i hi
    have RW := Lib.hid (HR.out.below hI.2.2.2.1)
    have KC := chosenS_any s A c gb os ((idxS s).getD i []) W (by omega) RW.out (by have := H4.out; omega) hC hl5 (fun y hy => by have := hxb y hy; have := H4.out; omega)
    rw [← chS_at s os H4.out i hi, H4.out] at KC
    have HX : Hid (∀ y ∈ (ch s os).getD i [], 0 ≤ y ∧ y < 52) := Lib.hid (fun y hy => HC.out y (hsub.subset hy))
    have HFX : Hid (falls ((ch s os).getD i [])) := Lib.hid (HF.out.sublist hsub)
    have HB1 : Hid (apartB ((ch s os).getD i []) = true → bst (ch s os) i = none → bst (ch s os) (i + 1) = some ((ch s os).getD i [])) := Lib.hid bst_first
    have HB2 : Hid (∀ b, apartB ((ch s os).getD i []) = true → bst (ch s os) i = some b → ltB ((ch s os).getD i []) b = true → bst (ch s os) (i + 1) = some ((ch s os).getD i [])) := Lib.hid (fun b => bst_yes)
    have HB3 : Hid (apartB ((ch s os).getD i []) = false → bst (ch s os) (i + 1) = bst (ch s os) i) := Lib.hid bst_no
    have HB4 : Hid (∀ b, bst (ch s os) i = some b → ltB ((ch s os).getD i []) b = false → bst (ch s os) (i + 1) = bst (ch s os) i) := Lib.hid (fun b => bst_keep)
    have HBF : Hid (∀ b, bst (ch s os) i = some b → b.length = s ∧ (∀ y ∈ b, 0 ≤ y ∧ y < 52) ∧ falls b) := Lib.hid (fun b h => by
      have hil : i ≤ (ch s os).length := by rw [chS_len s os H4.out]; omega
      obtain ⟨⟨j, hj, e⟩, _⟩ := (bst_facts (ch s os) s (fun j hj => (ch_mem s os _ (chS_mem s os H4.out j (by rw [chS_len s os H4.out] at hj; exact hj))).2) i hil).2 b h
      obtain ⟨hsb, hlb⟩ := ch_mem s os _ (chS_mem s os H4.out j (by omega))
      rw [← e] at hsb hlb
      exact ⟨hlb, fun y hy => HC.out y (hsb.subset hy), HF.out.sublist hsb⟩)
    obtain ⟨x, ex⟩ : ∃ x, x = (ch s os).getD i [] := ⟨_, rfl⟩
    rw [← ex] at KC HX HFX HB1 HB2 HB3 HB4 hln
    have HLN := Lib.hid hln
    have KCH := Lib.hid KC
    clear ex hm hsub hl5 hxb KC hln
    obtain ⟨r1, r2, r3, r4, v, r5, r6⟩ := hI
    have cl := (r1.cell 0 _ rfl).1
    have HLO : Hid (w0.heap.size + 7 ≤ W.heap.size ∧ gb ≠ w0.heap.size + 1) := Lib.hid (by omega)
    clear hgb hgb2
    have hnn1 : 1 ≤ 3 - 1 - 1 := by omega
    have KB : Hid (∀ w5 : World, Blk w5 W.heap.size 2 (ints x) → Calls Try.prog 111 #[.slice (some ⟨W.heap.size, 0, none⟩) s s] w5 (Same (.bool (apartB x)) w5)) := Lib.hid (fun w5 h => by
      have q := isBadugi_any (some ⟨W.heap.size, 0, none⟩) s x w5 (row_blk h (Nat.le_refl W.heap.size)).rd (by have := HLN.out; have := HS4.out; omega) (by have := HLN.out; omega) HX.out
      rw [HLN.out] at q; exact q)
    have up : ∀ {B : World} {g : Nat} {t : TypeId} {vs : List Value}, Blk W g t vs → Below W.heap.size W B → Blk B g t vs := fun hq hb => hq.below hb
    rcases hap : apartB x with _ | _
    · rw [hap] at KB
      gi_wp2_with (first
        | (refine ⟨trivial, ?_⟩; gi_at_call 99; refine (CallsIn.inRound l (callsIn_wide.2 KCH.out)).mono ?_; rintro e w5 ⟨rfl, hn5, hb5⟩; have B5 := Lib.hid hb5; have N5 := Lib.hid hn5; obtain ⟨c5, f5⟩ := (r5.below hb5).cell 0 _ rfl; clear hb5 hn5)
        | (refine ⟨trivial, ?_⟩; gi_at_call 111; refine (CallsIn.inRound l (callsIn_wide.2 (KB.out _ N5.out))).mono ?_; rintro e w6 ⟨rfl, rfl⟩)
        | fail)
      all_goals try (exfalso; rename_i hgd _; exact absurd (Option.some.inj hgd) (by unfold undef; simp))
      refine ⟨trivial, ?_⟩
      gi_wp2
      exact ⟨⟨up r1 B5.out, up r2 B5.out, up r3 B5.out, bl_trans r4 B5.out, v, up r5 B5.out, by
        have h6 := r6.grown (grown_of_below B5.out (some 0)) (by omega)
        unfold BestV at h6 ⊢
        rw [HB3.out hap]; exact h6⟩, up HCh.out B5.out, keeps_below B5.out⟩
    · rw [hap] at KB
      rcases r6 with ⟨hb0, rfl⟩ | ⟨b, g, hbs, hg1, rfl, hg2⟩
      · have HB0 := Lib.hid hb0
        clear hb0
        gi_wp2_with (first
          | (refine ⟨trivial, ?_⟩; gi_at_call 99; refine (CallsIn.inRound l (callsIn_wide.2 KCH.out)).mono ?_; rintro e w5 ⟨rfl, hn5, hb5⟩; have B5 := Lib.hid hb5; have N5 := Lib.hid hn5; obtain ⟨c5, f5⟩ := (r5.below hb5).cell 0 _ rfl; clear hb5 hn5)
          | (refine ⟨trivial, ?_⟩; gi_at_call 111; refine (CallsIn.inRound l (callsIn_wide.2 (KB.out _ N5.out))).mono ?_; rintro e w6 ⟨rfl, rfl⟩)
          | fail)
        all_goals try (exfalso; rename_i hgd _; exact absurd (Option.some.inj hgd) (by unfold undef; simp))
        refine ⟨trivial, ?_⟩
        gi_wp2
        obtain ⟨q1, q2⟩ := blk_set (up r5 B5.out) 0 (.slice (some ⟨W.heap.size, 0, none⟩) s s)
        have kp : ∀ {g : Nat} {t : TypeId} {vs : List Value}, Blk W g t vs → g ≠ w0.heap.size + 1 → Blk _ g t vs := fun hq hne => (up hq B5.out).grown q2 (fun e => hne (Option.some.inj e))
        exact ⟨⟨kp r1 (by omega), kp r2 (by omega), kp r3 (by omega), bl_blk (bl_trans r4 B5.out) q2 (by omega), _, q1, .inr ⟨x, W.heap.size, HB1.out hap HB0.out, HLO.out.1, rfl, N5.out.grown q2 (fun e => by have := Option.some.inj e; have := HLO.out; omega)⟩⟩, kp HCh.out HLO.out.2, (keeps_below B5.out).trans (KeepsOthers.setCell _ _ _)⟩
      · obtain ⟨hbl, hbc, hbf⟩ := HBF.out b hbs
        have HG := Lib.hid hg2
        have HBS := Lib.hid hbs
        have KQ : Hid (∀ w5 : World, Below W.heap.size W w5 → Blk w5 W.heap.size 2 (ints x) → Calls Try.prog 112 #[.slice (some ⟨W.heap.size, 0, none⟩) s s, .slice (some ⟨g, 0, none⟩) s s] w5 (CmpB x b w5)) := Lib.hid (fun w5 hb h => by
          have q := compareBadugis_any (some ⟨W.heap.size, 0, none⟩) (some ⟨g, 0, none⟩) s s x b w5 (row_blk h (Nat.le_refl W.heap.size)).rd (row_blk (HG.out.below hb) (Nat.le_refl g)).rd (by rw [HLN.out, hbl]) (by have := HLN.out; have := HS4.out; omega) HX.out hbc HFX.out hbf
          rw [HLN.out, hbl] at q; exact q)
        clear hbl hbc hbf hbs hg2
        rcases hlt : ltB x b with _ | _
        · gi_wp2_with (first
            | (refine ⟨trivial, ?_⟩; gi_at_call 99; refine (CallsIn.inRound l (callsIn_wide.2 KCH.out)).mono ?_; rintro e w5 ⟨rfl, hn5, hb5⟩; have B5 := Lib.hid hb5; have N5 := Lib.hid hn5; obtain ⟨c5, f5⟩ := (r5.below hb5).cell 0 _ rfl; clear hb5 hn5)
            | (refine ⟨trivial, ?_⟩; gi_at_call 111; refine (CallsIn.inRound l (callsIn_wide.2 (KB.out _ N5.out))).mono ?_; rintro e w6 ⟨rfl, rfl⟩)
            | (refine ⟨trivial, ?_⟩; gi_at_call 112; refine (CallsIn.inRound l (callsIn_wide.2 (KQ.out _ B5.out N5.out))).mono ?_; rintro e w7 ⟨r, rfl, hrr, hb7⟩; rw [hlt] at hrr; have hr0 : ¬ r < 0 := of_decide_eq_false hrr; have B7 := Lib.hid (bl_trans B5.out hb7); have N7 := Lib.hid (N5.out.below hb7); obtain ⟨c7, f7⟩ := (r5.below B7.out).cell 0 _ rfl; clear hb7 hrr c5 f5)
            | fail)
          exact ⟨⟨up r1 B7.out, up r2 B7.out, up r3 B7.out, bl_trans r4 B7.out, _, up r5 B7.out, .inr ⟨b, g, (HB4.out b HBS.out hlt).trans HBS.out, hg1, rfl, HG.out.below B7.out⟩⟩, up HCh.out B7.out, keeps_below B7.out⟩
        · gi_wp2_with (first
            | (refine ⟨trivial, ?_⟩; gi_at_call 99; refine (CallsIn.inRound l (callsIn_wide.2 KCH.out)).mono ?_; rintro e w5 ⟨rfl, hn5, hb5⟩; have B5 := Lib.hid hb5; have N5 := Lib.hid hn5; obtain ⟨c5, f5⟩ := (r5.below hb5).cell 0 _ rfl; clear hb5 hn5)
            | (refine ⟨trivial, ?_⟩; gi_at_call 111; refine (CallsIn.inRound l (callsIn_wide.2 (KB.out _ N5.out))).mono ?_; rintro e w6 ⟨rfl, rfl⟩)
            | (refine ⟨trivial, ?_⟩; gi_at_call 112; refine (CallsIn.inRound l (callsIn_wide.2 (KQ.out _ B5.out N5.out))).mono ?_; rintro e w7 ⟨r, rfl, hrr, hb7⟩; rw [hlt] at hrr; have hr0 : r < 0 := of_decide_eq_true hrr; have B7 := Lib.hid (bl_trans B5.out hb7); have N7 := Lib.hid (N5.out.below hb7); obtain ⟨c7, f7⟩ := (r5.below B7.out).cell 0 _ rfl; clear hb7 hrr c5 f5)
            | fail)
          obtain ⟨q1, q2⟩ := blk_set (up r5 B7.out) 0 (.slice (some ⟨W.heap.size, 0, none⟩) s s)
          have kp : ∀ {g : Nat} {t : TypeId} {vs : List Value}, Blk W g t vs → g ≠ w0.heap.size + 1 → Blk _ g t vs := fun hq hne => (up hq B7.out).grown q2 (fun e => hne (Option.some.inj e))
          exact ⟨⟨kp r1 (by omega), kp r2 (by omega), kp r3 (by omega), bl_blk (bl_trans r4 B7.out) q2 (by omega), _, q1, .inr ⟨x, W.heap.size, HB2.out b hap HBS.out hlt, HLO.out.1, rfl, N7.out.grown q2 (fun e => by have := Option.some.inj e; have := HLO.out; omega)⟩⟩, kp HCh.out HLO.out.2, (keeps_below B7.out).trans (KeepsOthers.setCell _ _ _)⟩
  case done =>
    intro D W hD hI hK
    obtain ⟨r1, r2, r3, r4, v, r5, r6⟩ := hI
    obtain ⟨c5, f5⟩ := r5.cell 0 _ rfl
    have H6 := Lib.hid r6
    clear r1 r2 r3 r6
    gi_wp2
    refine ⟨by simp, .inl ⟨_, _, rfl, run_takeDeferred hK, ?_⟩⟩
    have hlt := (Array.getElem?_eq_some_iff.1 hK).1
    have hb5 : Below w0.heap.size w0 (W.putObj D (.deferred none)) := r4.trans (putObj_below _ _ _ (by omega) hlt)
    have hv : BestV (ch s os) (ch s os).length s w0.heap.size v (W.putObj D (.deferred none)) := by
      rw [chS_len s os H4.out]
      rcases H6.out with ⟨a, b⟩ | ⟨b, g, h1, h2, h3, h4⟩
      · exact .inl ⟨a, b⟩
      · refine .inr ⟨b, g, h1, by omega, h3, (World.putObj_heap_other ?_).trans h4⟩
        intro e
        subst e
        rw [show W.heap[_]? = _ from h4] at hK
        cases hK
    refine ⟨_, ?_, ⟨v, rfl, hv, hb5⟩⟩
    simp [results, Try.f82, go_sem]
end Go.Proofs.Ytajkgnheijhbpaa
