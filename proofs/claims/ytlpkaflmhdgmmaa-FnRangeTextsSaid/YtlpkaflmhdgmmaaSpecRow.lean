/-
  The model's l08Classes and l08Between: the classes of a part. (l08Classes written by gen_s9b.py.)
-/
import Derived.Test.YtlpkaflmhdgmmaaSpecHand
import Derived.Test.YtlpkaflmhdgmmaaSpecH
namespace Go.Proofs.Ytlpkaflmhdgmmaa
open Go.RowKit
set_option linter.unusedVariables false

/-- What a function leaves that adds to a list. -/
def GrowTo (w0 : World) (ys : List Int) (e : Ending) (w' : World) : Prop := ∃ v, e = .returned v ∧ Grow w0 ys v w'
theorem box_kept {w0 W w1 : World} {ys : List Int} {v : Value} {t : TypeId} {vs : List Value} {o : Obj} (hb : Blk (W.alloc (.cells vs.toArray t)) W.heap.size t vs) (hS : Grow w0 ys v W) (hg : ((W.alloc (.cells vs.toArray t)).alloc o).grownBy w1 v.ownBlock) : Blk w1 W.heap.size t vs := by
  refine (hb.below (bl_alloc (bl_refl _) o)).grown hg ?_
  intro e
  have := (World.ownsRow.lt hS.1 _ e.symm).2
  omega
set_option maxRecDepth 100000 in
set_option maxHeartbeats 4000000 in
theorem classesM_both (w0 : World) (ys : List Int) (v : Value) (W : World) (hS : Hid (Grow w0 ys v W)) (hn : ys.length ≤ 100000) (a b : Int) (hp : b < a) (h1 : 0 ≤ b) (h2 : b ≤ a) (h3 : a ≤ 12) :
    Calls Try.prog 63 #[v, hV a b 32] W (GrowTo w0 (ys ++ clsG (a, b, 32))) := by
  obtain ⟨i0, hi, hz0, hz1, hz2⟩ := info_parts infoInt
  have HB := Lib.hid (blk_new W 78 [.int .i64 a, .int .i64 b, .int .u8 (32 : UInt8).toNat])
  have HL : Hid (clsG (a, b, 32) = (if (32 : UInt8) = 111 then [] else [13 * a + b]) ++ (if (32 : UInt8) ≠ 115 ∧ b < a then [13 * b + a] else [])) := Lib.hid rfl
  have HS1 : Hid (Grow w0 ys v (W.alloc (.cells #[.int .i64 a, .int .i64 b, .int .u8 (32 : UInt8).toNat] 78))) := Lib.hid ⟨hS.out.1.alloc _, bl_alloc hS.out.2 _⟩
  have HE := Lib.hid (HL.out.trans (by rw [if_neg (by decide), if_pos ⟨by decide, hp⟩]; rfl : _ = [13 * a + b, 13 * b + a]))
  rw [HE.out]
  clear HE HL
  go_enter Try.func63, Try.ntmps63
  go_wp2_with (at_builtin; refine wpList_append_own _ rfl _ _ 24 rfl w0.heap.size 2 i0 (.int .i64 0) 1 8 Try.underlying24 hi hz0 hz1 hz2 rfl (by decide) _ _ _ rfl (HS1.out.1.alloc _) ⟨W.heap.size + 1, 0, none⟩ 1 1 [.int .i64 (13 * a + b)] rfl rfl ?c1 ?c2 ?c3 ?c4 ?c5 ?_)
  case c1 =>
    intro j u hj
    match j, hj with
    | 0, hj => simp at hj; subst hj; simp [Addr.add, go_sem]
  case c2 => intro u hu; simp at hu; subst hu; rfl
  case c3 => unfold maxLen; omega
  case c4 => omega
  case c5 => have := HS1.out.2.size; simp at this ⊢; omega
  intro v1 w1 hown hgrow _
  have HG1 := Lib.hid (grow_app HS1.out hown hgrow)
  have HB1 := Lib.hid (box_kept HB.out hS.out hgrow)
  obtain ⟨d0, _⟩ := HB1.out.cell 0 _ rfl
  obtain ⟨d1, _⟩ := HB1.out.cell 1 _ rfl
  obtain ⟨d2, _⟩ := HB1.out.cell 2 _ rfl
  clear hown hgrow
  go_wp2_with (at_builtin; refine wpList_append_own _ rfl _ _ 24 rfl w0.heap.size 2 i0 (.int .i64 0) 1 8 Try.underlying24 hi hz0 hz1 hz2 rfl (by decide) _ _ _ rfl (HG1.out.1.alloc _) ⟨w1.heap.size, 0, none⟩ 1 1 [.int .i64 (13 * b + a)] rfl rfl ?c1 ?c2 ?c3 ?c4 ?c5 ?_)
  case c1 =>
    intro j u hj
    match j, hj with
    | 0, hj => simp at hj; subst hj; simp [Addr.add]
  case c2 => intro u hu; simp at hu; subst hu; rfl
  case c3 => unfold maxLen; simp; omega
  case c4 => simp; omega
  case c5 => have := HG1.out.2.size; simp; omega
  intro v2 w2 hown hgrow _
  have HG2 := Lib.hid (grow_app HG1.out (by rw [List.length_append]; exact hown) hgrow)
  clear hown hgrow
  go_wp2_with fail
  go_ret
  exact ⟨v2, rfl, by have := HG2.out; rw [List.append_assoc] at this; exact this⟩
set_option maxRecDepth 100000 in
set_option maxHeartbeats 4000000 in
theorem classesM_pair (w0 : World) (ys : List Int) (v : Value) (W : World) (hS : Hid (Grow w0 ys v W)) (hn : ys.length ≤ 100000) (a b : Int) (hp : ¬ b < a) (h1 : 0 ≤ b) (h2 : b ≤ a) (h3 : a ≤ 12) :
    Calls Try.prog 63 #[v, hV a b 32] W (GrowTo w0 (ys ++ clsG (a, b, 32))) := by
  obtain ⟨i0, hi, hz0, hz1, hz2⟩ := info_parts infoInt
  have HB := Lib.hid (blk_new W 78 [.int .i64 a, .int .i64 b, .int .u8 (32 : UInt8).toNat])
  have HL : Hid (clsG (a, b, 32) = (if (32 : UInt8) = 111 then [] else [13 * a + b]) ++ (if (32 : UInt8) ≠ 115 ∧ b < a then [13 * b + a] else [])) := Lib.hid rfl
  have HS1 : Hid (Grow w0 ys v (W.alloc (.cells #[.int .i64 a, .int .i64 b, .int .u8 (32 : UInt8).toNat] 78))) := Lib.hid ⟨hS.out.1.alloc _, bl_alloc hS.out.2 _⟩
  have HE := Lib.hid (HL.out.trans (by rw [if_neg (by decide), if_neg (fun q => hp q.2)]; rfl : _ = [13 * a + b]))
  rw [HE.out]
  obtain rfl : a = b := by omega
  clear HE HL hp h2
  go_enter Try.func63, Try.ntmps63
  go_wp2_with (at_builtin; refine wpList_append_own _ rfl _ _ 24 rfl w0.heap.size 2 i0 (.int .i64 0) 1 8 Try.underlying24 hi hz0 hz1 hz2 rfl (by decide) _ _ _ rfl (HS1.out.1.alloc _) ⟨W.heap.size + 1, 0, none⟩ 1 1 [.int .i64 (13 * a + a)] rfl rfl ?c1 ?c2 ?c3 ?c4 ?c5 ?_)
  case c1 =>
    intro j u hj
    match j, hj with
    | 0, hj => simp at hj; subst hj; simp [Addr.add, go_sem]
  case c2 => intro u hu; simp at hu; subst hu; rfl
  case c3 => unfold maxLen; omega
  case c4 => omega
  case c5 => have := HS1.out.2.size; simp at this ⊢; omega
  intro v1 w1 hown hgrow _
  have HG1 := Lib.hid (grow_app HS1.out hown hgrow)
  have HB1 := Lib.hid (box_kept HB.out hS.out hgrow)
  obtain ⟨d0, _⟩ := HB1.out.cell 0 _ rfl
  obtain ⟨d1, _⟩ := HB1.out.cell 1 _ rfl
  obtain ⟨d2, _⟩ := HB1.out.cell 2 _ rfl
  clear hown hgrow
  go_wp2_with fail
  go_ret
  exact ⟨v1, rfl, HG1.out⟩
set_option maxRecDepth 100000 in
set_option maxHeartbeats 4000000 in
theorem classesM_s (w0 : World) (ys : List Int) (v : Value) (W : World) (hS : Hid (Grow w0 ys v W)) (hn : ys.length ≤ 100000) (a b : Int) (h1 : 0 ≤ b) (h2 : b ≤ a) (h3 : a ≤ 12) :
    Calls Try.prog 63 #[v, hV a b 115] W (GrowTo w0 (ys ++ clsG (a, b, 115))) := by
  obtain ⟨i0, hi, hz0, hz1, hz2⟩ := info_parts infoInt
  have HB := Lib.hid (blk_new W 78 [.int .i64 a, .int .i64 b, .int .u8 (115 : UInt8).toNat])
  have HL : Hid (clsG (a, b, 115) = (if (115 : UInt8) = 111 then [] else [13 * a + b]) ++ (if (115 : UInt8) ≠ 115 ∧ b < a then [13 * b + a] else [])) := Lib.hid rfl
  have HS1 : Hid (Grow w0 ys v (W.alloc (.cells #[.int .i64 a, .int .i64 b, .int .u8 (115 : UInt8).toNat] 78))) := Lib.hid ⟨hS.out.1.alloc _, bl_alloc hS.out.2 _⟩
  have HE := Lib.hid (HL.out.trans (by rw [if_neg (by decide), if_neg (fun q => q.1 rfl)]; rfl : _ = [13 * a + b]))
  rw [HE.out]
  clear HE HL
  go_enter Try.func63, Try.ntmps63
  go_wp2_with (at_builtin; refine wpList_append_own _ rfl _ _ 24 rfl w0.heap.size 2 i0 (.int .i64 0) 1 8 Try.underlying24 hi hz0 hz1 hz2 rfl (by decide) _ _ _ rfl (HS1.out.1.alloc _) ⟨W.heap.size + 1, 0, none⟩ 1 1 [.int .i64 (13 * a + b)] rfl rfl ?c1 ?c2 ?c3 ?c4 ?c5 ?_)
  case c1 =>
    intro j u hj
    match j, hj with
    | 0, hj => simp at hj; subst hj; simp [Addr.add, go_sem]
  case c2 => intro u hu; simp at hu; subst hu; rfl
  case c3 => unfold maxLen; omega
  case c4 => omega
  case c5 => have := HS1.out.2.size; simp at this ⊢; omega
  intro v1 w1 hown hgrow _
  have HG1 := Lib.hid (grow_app HS1.out hown hgrow)
  have HB1 := Lib.hid (box_kept HB.out hS.out hgrow)
  obtain ⟨d0, _⟩ := HB1.out.cell 0 _ rfl
  obtain ⟨d1, _⟩ := HB1.out.cell 1 _ rfl
  obtain ⟨d2, _⟩ := HB1.out.cell 2 _ rfl
  clear hown hgrow
  go_wp2_with fail
  go_ret
  exact ⟨v1, rfl, HG1.out⟩
set_option maxRecDepth 100000 in
set_option maxHeartbeats 4000000 in
theorem classesM_o (w0 : World) (ys : List Int) (v : Value) (W : World) (hS : Hid (Grow w0 ys v W)) (hn : ys.length ≤ 100000) (a b : Int) (hp : b < a) (h1 : 0 ≤ b) (h2 : b ≤ a) (h3 : a ≤ 12) :
    Calls Try.prog 63 #[v, hV a b 111] W (GrowTo w0 (ys ++ clsG (a, b, 111))) := by
  obtain ⟨i0, hi, hz0, hz1, hz2⟩ := info_parts infoInt
  have HB := Lib.hid (blk_new W 78 [.int .i64 a, .int .i64 b, .int .u8 (111 : UInt8).toNat])
  have HL : Hid (clsG (a, b, 111) = (if (111 : UInt8) = 111 then [] else [13 * a + b]) ++ (if (111 : UInt8) ≠ 115 ∧ b < a then [13 * b + a] else [])) := Lib.hid rfl
  have HS1 : Hid (Grow w0 ys v (W.alloc (.cells #[.int .i64 a, .int .i64 b, .int .u8 (111 : UInt8).toNat] 78))) := Lib.hid ⟨hS.out.1.alloc _, bl_alloc hS.out.2 _⟩
  have HE := Lib.hid (HL.out.trans (by rw [if_pos rfl, if_pos ⟨by decide, hp⟩]; rfl : _ = [13 * b + a]))
  rw [HE.out]
  clear HE HL
  go_enter Try.func63, Try.ntmps63
  go_wp2_with (at_builtin; refine wpList_append_own _ rfl _ _ 24 rfl w0.heap.size 2 i0 (.int .i64 0) 1 8 Try.underlying24 hi hz0 hz1 hz2 rfl (by decide) _ _ _ rfl (HS1.out.1.alloc _) ⟨W.heap.size + 1, 0, none⟩ 1 1 [.int .i64 (13 * b + a)] rfl rfl ?c1 ?c2 ?c3 ?c4 ?c5 ?_)
  case c1 =>
    intro j u hj
    match j, hj with
    | 0, hj => simp at hj; subst hj; simp [Addr.add, go_sem]
  case c2 => intro u hu; simp at hu; subst hu; rfl
  case c3 => unfold maxLen; omega
  case c4 => omega
  case c5 => have := HS1.out.2.size; simp at this ⊢; omega
  intro v2 w2 hown hgrow _
  have HG2 := Lib.hid (grow_app HS1.out hown hgrow)
  clear hown hgrow
  go_wp2_with fail
  go_ret
  exact ⟨v2, rfl, HG2.out⟩
theorem classesM_any (w0 : World) (ys : List Int) (v : Value) (W : World) (hS : Hid (Grow w0 ys v W)) (hn : ys.length ≤ 100000) (g : Grp) (ho : OkG g) :
    Calls Try.prog 63 #[v, hV g.1 g.2.1 g.2.2] W (GrowTo w0 (ys ++ clsG g)) := by
  obtain ⟨a, b, kd⟩ := g
  obtain ⟨h1, h2, h3, h4, h5⟩ := ho
  dsimp only at h1 h2 h3 h4 h5 ⊢
  have hlt : kd ≠ 32 → b < a := fun h => by
    by_cases e : a = b
    · exact absurd (h4 e) h
    · omega
  rcases h5 with e | e | e
  · subst e
    by_cases hp : b < a
    · exact classesM_both w0 ys v W hS hn a b hp h1 h2 h3
    · exact classesM_pair w0 ys v W hS hn a b hp h1 h2 h3
  · subst e; exact classesM_s w0 ys v W hS hn a b h1 h2 h3
  · subst e; exact classesM_o w0 ys v W hS hn a b (hlt (by decide)) h1 h2 h3
theorem grow_new {w0 W : World} {ys : List Int} {v : Value} (h : Grow w0 ys v W) (o : Obj) : Grow w0 ys v (W.alloc o) := ⟨h.1.alloc _, bl_alloc h.2 _⟩
theorem grow_box {w0 W : World} {ys : List Int} {v : Value} (h : Grow w0 ys v W) (o : Obj) (i : Nat) (u : Value) : Grow w0 ys v ((W.alloc o).setCell ⟨W.heap.size, i, none⟩ u) := by
  refine ⟨Own.grown (row := some W.heap.size) (h.1.alloc _) ⟨rfl, rfl, rfl, by simp [World.setCell], fun k hk hne => Below.heap_setCell (W.alloc o) ⟨W.heap.size, i, none⟩ _ k (fun e => hne (by rw [e]))⟩ ?_, bl_set (bl_alloc h.2 _) h.2.size _⟩
  cases hv : v.ownBlock with
  | none => exact .inl rfl
  | some j =>
    right
    have := (World.ownsRow.lt h.1 j hv).2
    intro e
    injection e with e
    omega
set_option maxRecDepth 100000 in
set_option maxHeartbeats 4000000 in
theorem between_any (w : World) (x : Grp × Int) (ho : OkP x) (th : Int) (tk : UInt8) (hW : ∀ i : Int, x.1.2.1 ≤ i → i ≤ x.2 → ((if th = x.2 then i else th, i, tk) : Grp) = withG x.1 i) :
    Calls Try.prog 52 #[.slice none 0 0, hV th x.2 tk, hV x.1.1 x.1.2.1 x.1.2.2] w (NewL (rowG x) w) := by
  have HO := Lib.hid ho
  have HX := Lib.hid hW
  have HN : Hid (rowG x = rowN x.1 (x.2 + 1 - x.1.2.1).toNat) := Lib.hid rfl
  obtain ⟨⟨b1, b2, b3, b4, b5⟩, b6, b7, b8⟩ := ho
  obtain ⟨⟨a, b, kd⟩, m⟩ := x
  dsimp only at b1 b2 b3 b4 b5 b6 b7 b8 HN HX ⊢
  have HWG := Lib.hid (fun (n : Nat) (hn : b + n ≤ m) => with_ok HO.out (b + n) (by dsimp only; omega) hn)
  dsimp only at HWG
  obtain ⟨R, eR⟩ : ∃ R : Nat → List Int, R = rowN (a, b, kd) := ⟨_, rfl⟩
  have HRZ : Hid (R 0 = []) := Lib.hid (by rw [eR]; rfl)
  have HRS : Hid (∀ n, R (n + 1) = R n ++ clsG (withG (a, b, kd) (b + n))) := Lib.hid (fun n => by rw [eR]; exact rowN_succ _ _)
  have HRL : Hid (∀ n, (R n).length ≤ 2 * n) := Lib.hid (fun n => by rw [eR]; exact rowN_len _ _)
  rw [← eR] at HN
  obtain ⟨w2, e2⟩ : ∃ w2, w2 = (w.alloc (.cells #[.int .i64 th, .int .i64 m, .int .u8 tk.toNat] 78)).alloc (.cells #[.int .i64 a, .int .i64 b, .int .u8 kd.toNat] 78) := ⟨_, rfl⟩
  have HZ : Hid (w2.heap.size = w.heap.size + 2) := Lib.hid (by rw [e2]; simp)
  have HB1 : Hid (Blk w2 w.heap.size 78 [.int .i64 th, .int .i64 m, .int .u8 tk.toNat]) := Lib.hid (by
    rw [e2]
    exact (blk_new w 78 [.int .i64 th, .int .i64 m, .int .u8 tk.toNat]).below (bl_alloc (bl_refl _) _))
  have HB2 : Hid (Blk w2 (w.heap.size + 1) 78 [.int .i64 a, .int .i64 b, .int .u8 kd.toNat]) := Lib.hid (by
    rw [e2]
    have h := blk_new (w.alloc (.cells #[.int .i64 th, .int .i64 m, .int .u8 tk.toNat] 78)) 78 [.int .i64 a, .int .i64 b, .int .u8 kd.toNat]
    rw [World.size_alloc] at h
    exact h)
  have HBW : Hid (Below w.heap.size w w2) := Lib.hid (by rw [e2]; exact bl_alloc (bl_alloc (bl_refl _) _) _)
  have HS : Hid (Grow w2 (R 0) (.slice none 0 0) w2) := Lib.hid (by rw [HRZ.out]; exact ⟨Own.nil _ _, bl_refl _⟩)
  obtain ⟨p, hp⟩ : ∃ p : Bool, p = (th == m) := ⟨_, rfl⟩
  have HP := Lib.hid hp
  obtain ⟨c0, _⟩ := HB1.out.cell 0 _ rfl
  obtain ⟨c1, _⟩ := HB1.out.cell 1 _ rfl
  obtain ⟨c2, _⟩ := HB1.out.cell 2 _ rfl
  obtain ⟨d1, _⟩ := HB2.out.cell 1 _ rfl
  have hpe : (th == m) = p := hp.symm
  clear hW b2 b4 b5 b8 eR hp
  go_enter Try.func52, Try.ntmps52
  go_wp2_with fail
  rw [← e2]
  clear e2 c0 c1 c2 d1
  go_loopw [0, 8] (fun v i wr => ∃ k : Nat, b + k ≤ m + 1 ∧ i = .int .i64 (b + k) ∧ Hid (Grow w2 (R k) v wr)) (fun _ i _ => (13 - intOf i).toNat)
  case atStart => exact ⟨0, by omega, by go_num, HS⟩
  case round =>
    obtain ⟨k, hk, rfl, hs⟩ := hrel
    obtain ⟨c0, _⟩ := (HB1.out.below hs.out.2).cell 0 _ rfl
    obtain ⟨c1, _⟩ := (HB1.out.below hs.out.2).cell 1 _ rfl
    obtain ⟨c2, _⟩ := (HB1.out.below hs.out.2).cell 2 _ rfl
    by_cases hlt : b + k ≤ m
    · have hrl : (R k).length ≤ 100000 := by have := HRL.out k; omega
      rcases p with _ | _
      · have hne : ¬ th = m := by have := HP.out; simpa using this.symm
        have hv : withG (a, b, kd) (b + k) = (th, b + k, tk) := by
          have := HX.out (b + k) (by omega) hlt
          rw [if_neg hne] at this
          exact this.symm
        have KC : Hid (∀ W, Grow w2 (R k) u0 W → Calls Try.prog 63 #[u0, hV th (b + k) tk] W (GrowTo w2 (R (k + 1)))) := Lib.hid (fun W hW => by
          have h := classesM_any w2 (R k) u0 W (Lib.hid hW) hrl (withG (a, b, kd) (b + k)) (HWG.out k hlt)
          rw [← HRS.out k, hv] at h
          exact h)
        clear hne hv hrl
        go_wp2_with (go_at_call 63; (refine (KC.out _ (grow_new hs.out _)).mono ?_; rintro e w3 ⟨v3, rfl, hg3⟩; have HG := Lib.hid hg3; clear hg3))
        go_roundw
        case rel => exact ⟨k + 1, by omega, by go_num, HG⟩
        case measure => simp [intOf]; omega
      · have heq : th = m := by have := HP.out; simpa using this.symm
        have hv : withG (a, b, kd) (b + k) = (b + k, b + k, tk) := by
          have := HX.out (b + k) (by omega) hlt
          rw [if_pos heq] at this
          exact this.symm
        have KC : Hid (∀ W, Grow w2 (R k) u0 W → Calls Try.prog 63 #[u0, hV (b + k) (b + k) tk] W (GrowTo w2 (R (k + 1)))) := Lib.hid (fun W hW => by
          have h := classesM_any w2 (R k) u0 W (Lib.hid hW) hrl (withG (a, b, kd) (b + k)) (HWG.out k hlt)
          rw [← HRS.out k, hv] at h
          exact h)
        clear heq hv hrl
        go_wp2_with (go_at_call 63; (refine (KC.out _ (by first | exact grow_new hs.out _ | exact grow_box hs.out _ _ _)).mono ?_; rintro e w3 ⟨v3, rfl, hg3⟩; have HG := Lib.hid hg3; clear hg3))
        go_roundw
        case rel => exact ⟨k + 1, by omega, by go_num, HG⟩
        case measure => simp [intOf]; omega
    · have hkm : k = (m + 1 - b).toNat := by omega
      have HKM := Lib.hid hkm
      obtain ⟨A, cc, rfl, hOwn⟩ := own_form hs.out.1
      have HW := Lib.hid hOwn
      clear hkm hOwn
      go_wp2_with fail
      go_ret
      rw [HN.out, ← HKM.out]
      exact ⟨A, cc, rfl, HW.out.less HBW.out.size, bl_trans HBW.out hs.out.2⟩
end Go.Proofs.Ytlpkaflmhdgmmaa
