/-
  The program's suitExchanges: all 24 exchanges of suits.
-/
import Derived.Test.YtilbkgnjgmlhjaaDoorSuitExch
namespace Go.Proofs.YtilbkgnjgmlhjaaDoor
open Go.RowKit
set_option linter.unusedVariables false

/-- An own list of exchanges, as a slice. -/
theorem ownX_form {w : World} {b : Nat} {v : Value} {l : List (List Int)} (h : OwnX w b v l) (h0 : 0 < l.length) :
    ∃ g cap cur, v = .slice (some ⟨g, 0, none⟩) l.length cap ∧ b ≤ g ∧ w.heap[g]? = some (.cells cur 100 (0, 0)) ∧ l.length ≤ cap ∧ cap ≤ maxLen ∧ cur.toList.take (l.length * 4) = cells4 l := by
  obtain ⟨_, h⟩ := h
  rcases h with ⟨_, h⟩ | ⟨g, cap, cur, h1, h2, h3, h4, h5, h6, h7⟩
  · omega
  · exact ⟨g, cap, cur, h1, h2, h3, h4, h5, h7⟩
theorem OwnX.below {w w' : World} {b : Nat} {v : Value} {l : List (List Int)} (h : OwnX w b v l) (hb : Below w.heap.size w w') : OwnX w' b v l := by
  obtain ⟨h1, h⟩ := h
  refine ⟨h1, ?_⟩
  rcases h with h | ⟨g, cap, cur, e, h2, h3, h4⟩
  · exact Or.inl h
  · exact Or.inr ⟨g, cap, cur, e, h2, (hb.block g (Array.getElem?_eq_some_iff.1 h3).1).trans h3, h4⟩
theorem OwnX.grown {w w' : World} {b c : Nat} {v : Value} {l : List (List Int)} (h : OwnX w b v l) (hg : w.grownBy w' (some c)) (hc : c < b) : OwnX w' b v l := by
  obtain ⟨h1, h⟩ := h
  refine ⟨h1, ?_⟩
  rcases h with h | ⟨g, cap, cur, e, h2, h3, h4⟩
  · exact Or.inl h
  · exact Or.inr ⟨g, cap, cur, e, h2, (hg.block g (Array.getElem?_eq_some_iff.1 h3).1 (by simp; omega)).trans h3, h4⟩
theorem OwnX.block {w : World} {b : Nat} {v : Value} {l : List (List Int)} (h : OwnX w b v l) (j : Nat) (hj : some j = v.ownBlock) : b ≤ j := by
  obtain ⟨_, h⟩ := h
  rcases h with ⟨e, _⟩ | ⟨g, cap, cur, e, h2, _⟩ <;> subst e <;> simp [Value.ownBlock] at hj
  omega
theorem blk_clear {w : World} {g : Nat} {T : TypeId} {bs : List Bool} (h : Blk w g T (bools bs)) (hl : bs.length = 4) :
    Blk (w.setCells g 0 (List.replicate 4 (.bool false))) g T (bools (tkn [])) ∧ w.grownBy (w.setCells g 0 (List.replicate 4 (.bool false))) (some g) := by
  obtain ⟨a, b, c, d, rfl⟩ : ∃ a b c d, bs = [a, b, c, d] := by
    match bs, hl with
    | [a, b, c, d], _ => exact ⟨a, b, c, d, rfl⟩
  have s0 := blk_set h 0 (.bool false)
  have s1 := blk_set s0.1 1 (.bool false)
  have s2 := blk_set s1.1 2 (.bool false)
  have s3 := blk_set s2.1 3 (.bool false)
  exact ⟨s3.1, ((s0.2.trans s1.2).trans s2.2).trans s3.2⟩
/-- clear of four booleans. -/
theorem wpList_clear4 {ops : Array Oper} {rest : List Oper} {o : Oper} {a : Act} {w : World} {Q : Exit → Act → World → Prop} (hgd : o.guard = none) (x : Operand)
    (ho : o.op = .call { callee := .builtin .clear, args := #[x], argTypes := #[112] }) (g c : Nat) (T : TypeId) (bs : List Bool) (hb : Blk w g T (bools bs)) (hl : bs.length = 4)
    (hx : a.eval x = .slice (some ⟨g, 0, none⟩) 4 c)
    (h : ∀ w', Blk w' g T (bools (tkn [])) → w.grownBy w' (some g) → wpList Tryd.prog ops Q rest (a.put o.dst (.tuple #[])) w') : wpList Tryd.prog ops Q (o :: rest) a w :=
  wpList_plain hgd fun K hK => by
    have hlen : (bools bs).length = 4 := by unfold bools; rw [List.length_map, hl]
    have hr := Lib.run_clear_slice (P := Tryd.prog) w 112 4 o.type (.bool false) Tryd.underlying112 zeroBool rfl rfl g 0 4 c (by omega)
      (fun j hj => by have := (hb.cell j _ (List.getElem?_eq_getElem (by rw [hlen]; exact hj))).1; rw [Nat.zero_add, this]; rfl)
      (fun j hj => by have := (hb.cell j _ (List.getElem?_eq_getElem (by rw [hlen]; exact hj))).2; rw [Nat.zero_add, this])
    have hc := blk_clear hb hl
    unfold Oper.wp execOp
    simp only [ho, resolve, invoke, builtin, Sem.run_bind, Sem.run_pure, Result.andThen_ok, List.map_toArray, List.map_cons, List.map_nil, hx, hr]
    exact hK _ _ (h _ hc.1 hc.2)
theorem uX : Tryd.prog.underlying 100 = some (.array 4 2) := by kernel_rfl
theorem iX : (Tryd.prog.info? 100).map (·.size) = some 4 := by kernel_rfl
/-- What the inner loop keeps. -/
structure Taking (w0 : World) (g : Nat) (e : List Int) (l : List (List Int)) (v : Value) (b : Nat) (k : Nat) (wr : World) : Prop where
  own : OwnX wr (g + 1) v l
  tak : Blk wr g 126 (bools (tkn (e.take k)))
  now : Blk wr b 100 (ints e)
  below : Below w0.heap.size w0 wr
theorem Taking.step {w0 wr : World} {g b k : Nat} {e : List Int} {l : List (List Int)} {v : Value} (h : Taking w0 g e l v b k wr) (hk : k < e.length) (h0 : 0 ≤ nth e k) (h1 : nth e k < 4) (hg : w0.heap.size ≤ g) (hb : g < b) :
    Taking w0 g e l v b (k + 1) (wr.setCell ⟨g, (nth e k).toNat, none⟩ (.bool true)) := by
  have s := blk_set h.tak (nth e k).toNat (.bool true)
  refine ⟨h.own.grown s.2 (by omega), ?_, h.now.grown s.2 (by simp; omega), bl_blk h.below s.2 hg⟩
  have := s.1
  rwa [tkn_set _ _ h0 h1, ← take_nth e k hk] at this
theorem sdig_bd (n : Nat) (hn : n < 256) : ∀ k, k < 4 → 0 ≤ nth (sdig n) k ∧ nth (sdig n) k < 4 := by
  intro k hk
  have hc : k = 0 ∨ k = 1 ∨ k = 2 ∨ k = 3 := by omega
  rcases hc with rfl | rfl | rfl | rfl <;> simp [nth, sdig] <;> omega
theorem flip_no {a b : Bool} (h : a = !b) (k : a = true) : b = false := by subst k; cases b <;> simp at h ⊢
theorem flip_yes {a b : Bool} (h : a = !b) (k : a = false) : b = true := by subst k; cases b <;> simp at h ⊢
theorem len_bools (l : List Int) : (tkn l).length = 4 := rfl
theorem run_indexX (k : Nat) (xs : List Int) (W : World) (hl : xs.length = 4) (hk : k < 4) :
    (Instr.index 100 (.agg (ints xs).toArray) (.int .i64 k)).run Tryd.prog W = .ok (.int .i64 (nth xs k)) W := by
  have h1 : (0 : Int) ≤ (k : Int) ∧ (k : Int) < 4 := by omega
  have hg : (ints xs)[k]? = some (.int .i64 (nth xs k)) := ints_get xs k (by omega)
  obtain ⟨i0, hi, hz0, hz1, hz2⟩ := info_parts infoInt
  simp [Instr.index, run_underlying uX, go_sem, h1, sizeOf, typeInfo, hi, hz1, part, isAgg, run_underlying Tryd.underlying2, hg]
  intro h; omega

set_option maxRecDepth 100000 in
set_option maxHeartbeats 2000000 in
theorem exchanges_any (w : World) : Calls Tryd.prog 73 #[] w (fun e w' => ∃ v, e = .returned v ∧ OwnX w' (w.heap.size + 1) v (exN 256) ∧ Below w.heap.size w w') := by
  obtain ⟨w0, rfl⟩ : ∃ w0 : World, w0 = w := ⟨w, rfl⟩
  have KL := Lib.hid suitList_any
  have KC := Lib.hid contains_bools
  obtain ⟨i0, hi, hz0, hz1, hz2⟩ := info_parts infoExch
  go_enter Tryd.func73, Tryd.ntmps73
  go_wp2_with fail
  have HS : Hid (Exch w0 w0.heap.size 0 (.slice none 0 0) (w0.alloc (.cells #[.bool false, .bool false, .bool false, .bool false] 126))) := Lib.hid
    ⟨⟨rfl, Or.inl ⟨rfl, rfl⟩⟩, ⟨[false, false, false, false], rfl, blk_new w0 _ _⟩, bl_alloc (bl_refl _) _, Nat.le_refl _⟩
  go_loopw [1, 7] (fun v i wr => ∃ n : Nat, n ≤ 256 ∧ i = .int .i64 n ∧ Hid (Exch w0 w0.heap.size n v wr)) (fun _ i _ => 256 - (intOf i).toNat)
  case atStart => exact ⟨0, by omega, rfl, HS⟩
  case round =>
    obtain ⟨n, hn, rfl, hs⟩ := hrel
    by_cases hlt : n < 256
    · have hlt' : (n : Int) < 256 := by omega
      obtain ⟨bs, hbl, hbk⟩ := hs.out.tak
      have HBL := Lib.hid hbl
      have HBK := Lib.hid hbk
      have HX := Lib.hid hs.out.own
      have HB := Lib.hid hs.out.below
      clear hbl hbk
      have K1 := Lib.hid (fun W => suitList_any n W hlt)
      have HD := Lib.hid (sdig_bd n hlt)
      have HOK := Lib.hid (okX_tkn n)
      have HNY := Lib.hid (@exN_yes n)
      have HNN := Lib.hid (@exN_no n)
      have HLE := Lib.hid (exN_le n)
      have LE : Hid ((sdig n).length = 4) := Lib.hid rfl
      generalize exN n = l at *
      have HEL := Lib.hid (rfl : sdig n = sdig n)
      generalize hse : sdig n = e at *
      have HSE := Lib.hid hse
      clear hse
      go_wp2_with (first
        | (with_reducible refine wpList_clear4 rfl (.tmp 10) rfl w0.heap.size 4 _ bs HBK.out HBL.out rfl ?_; intro w1 hb1 hg1
           have B1 := Lib.hid hb1; have G1 := Lib.hid (bl_blk HB.out hg1 (Nat.le_refl _)); have X1 := Lib.hid (HX.out.grown hg1 (by omega)); clear hb1 hg1)
        | (go_at_call 103; refine (K1.out _).mono ?_; rintro e2 w2 ⟨rfl, hb2⟩
           have B2 := Lib.hid (B1.out.below hb2); have G2 := Lib.hid (bl_trans G1.out hb2); have X2 := Lib.hid (X1.out.below hb2); clear hb2)
        | (refine wpList_store_blk 100 4 rfl (.tmp 4) (.tmp 12) rfl iX w2.heap.size rfl (ints e) rfl (by rw [ints_length, LE.out]) (ints_one e) _ (heap_alloc_new w2 _) rfl ?_
           intro w3 hb3 hg3
           have A2 : Hid (Below w2.heap.size w2 w3) := Lib.hid (bl_blk (bl_alloc (bl_refl w2) _) hg3 (Nat.le_refl _))
           have HT : Hid (Taking w0 w0.heap.size e l u1 w2.heap.size 0 w3) := Lib.hid ⟨X2.out.below A2.out, B2.out.below A2.out, hb3, bl_trans G2.out A2.out⟩
           have HL2 : Hid (w0.heap.size < w2.heap.size) := Lib.hid B2.out.lt
           clear hb3 hg3)
        | (with_reducible refine wpList_load_blk 100 _ 4 rfl (.tmp 4) rfl uX rfl iX w2.heap.size 0 rfl (ints e) (by rw [ints_length, LE.out]) HT.out.now.range ?_))
      obtain ⟨b, eb⟩ : ∃ b, b = w2.heap.size := ⟨_, rfl⟩
      rw [← eb] at HT HL2 ⊢
      clear K1 B1 G1 X1 B2 G2 X2 A2 eb HBL HBK HX HB HS hs
      go_loopw [14] (fun i wr => ∃ k : Nat, k ≤ 4 ∧ i = .int .i64 k ∧ Hid (Taking w0 w0.heap.size e l u1 b k wr)) (fun i _ => 4 - (intOf i).toNat)
      case atStart => exact ⟨0, by omega, rfl, HT⟩
      case round =>
        obtain ⟨k, hk, rfl, ht⟩ := hrel
        by_cases hk4 : k < 4
        · have hk4' : (k : Int) < 4 := by omega
          have hd := HD.out k hk4
          have hidx := fun W => run_indexX k e W LE.out hk4
          have HP := Lib.hid (ht.out.step (by rw [LE.out]; exact hk4) hd.1 hd.2 (Nat.le_refl _) HL2.out)
          have hcl := ht.out.tak.cell (nth e k).toNat _ (List.getElem?_eq_getElem (by unfold bools; rw [List.length_map, len_bools]; omega))
          obtain ⟨hc1, hc2⟩ := hcl
          obtain ⟨hd0, hd1⟩ := hd
          generalize (bools (tkn (e.take k)))[(nth e k).toNat]'_ = old at *
          generalize nth e k = q at *
          go_wp2_with fail
          go_roundw
          case rel => exact ⟨k + 1, by omega, by go_num, HP⟩
          case measure => simp [intOf]; omega
        · obtain rfl : k = 4 := by omega
          have HTK : Hid (e.take 4 = e) := Lib.hid (by rw [← LE.out]; exact List.take_length)
          have HT4 := ht
          by_cases hok : okX n = true
          · have K2 := Lib.hid (KC.out w0.heap.size 4 126 (tkn e) wr (by have := HT4.out.tak; rwa [HTK.out] at this) rfl)
            have hcf : (tkn e).contains false = false := flip_no HOK.out hok
            rw [hcf] at K2
            have EN := Lib.hid (HNY.out hok)
            clear hcf hok
            obtain ⟨q0, q1, q2, q3, rfl⟩ : ∃ a b c d, e = [a, b, c, d] := by
              match e, LE.out with
              | [a, b, c, d], _ => exact ⟨a, b, c, d, rfl⟩
            go_wp2_with (first
              | (go_at_call 104; refine K2.out.mono ?_; rintro e2 w3 ⟨rfl, rfl⟩)
              | (with_reducible refine wpList_load_blk 100 _ 4 rfl (.tmp 4) rfl uX rfl iX b 0 rfl (ints [q0, q1, q2, q3]) rfl HT4.out.now.range ?_; simp only [ints, List.map_cons, List.map_nil])
              | (at_builtin; refine wpList_append_own_at _ rfl _ _ 97 rfl (w0.heap.size + 1) 100 i0 (.agg #[.int .i64 0, .int .i64 0, .int .i64 0, .int .i64 0]) 4 32 Tryd.underlying97 hi hz0 hz1 hz2 rfl (by decide) _ _ _ rfl (HT4.out.own.below (bl_alloc (bl_refl _) _)) ⟨_, 0, none⟩ 1 1 (ints [q0, q1, q2, q3]) rfl rfl ?c1 ?c2 ?c3 ?c4 ?c5 ?_))
            case c1 => intro j u hu; match j, hu with
              | 0, hu => simp [ints] at hu; subst hu; simp [Addr.add, go_sem]
              | 1, hu => simp [ints] at hu; subst hu; simp [Addr.add, go_sem]
              | 2, hu => simp [ints] at hu; subst hu; simp [Addr.add, go_sem]
              | 3, hu => simp [ints] at hu; subst hu; simp [Addr.add, go_sem]
            case c2 => exact ints_one _
            case c3 => have := HLE.out; unfold maxLen; omega
            case c4 => have := HLE.out; omega
            case c5 => have := HT4.out.tak.lt; simp; omega
            intro v1 w5 hown1 hgrow1 hnil1 hat1
            have HO : Hid (OwnX w5 (w0.heap.size + 1) v1 (l ++ [[q0, q1, q2, q3]])) := Lib.hid (by unfold OwnX; rw [cells4_snoc, List.length_append]; exact hown1)
            have NB : ∀ j, some j = u1.ownBlock → w0.heap.size + 1 ≤ j := fun j hj => HT4.out.own.block j hj
            have HB5 : Hid (Below w0.heap.size w0 w5) := Lib.hid ((bl_alloc HT4.out.below _).grown hgrow1 (by have := HT4.out.below.size; simp; omega) (fun j hj => by have := NB j hj.symm; omega))
            have HK5 : Hid (Blk w5 w0.heap.size 126 (bools (tkn ([q0, q1, q2, q3].take 4)))) := Lib.hid ((HT4.out.tak.below (bl_alloc (bl_refl _) _)).grown hgrow1 (fun hj => by have := NB _ hj; omega))
            clear hown1 hgrow1 hnil1 hat1 NB
            go_wp2_with fail
            go_roundw
            case rel => exact ⟨n + 1, by omega, by go_num, Lib.hid ⟨by rw [EN.out]; exact HO.out, ⟨_, rfl, HK5.out⟩, HB5.out, Nat.le_refl _⟩⟩
            case measure => simp [intOf]; omega
          · have hok' : okX n = false := by cases h : okX n <;> simp_all
            have K2 := Lib.hid (KC.out w0.heap.size 4 126 (tkn e) wr (by have := HT4.out.tak; rwa [HTK.out] at this) rfl)
            have hcf : (tkn e).contains false = true := flip_yes HOK.out hok'
            rw [hcf] at K2
            have EN := Lib.hid (HNN.out hok')
            clear hcf hok hok'
            go_wp2_with (go_at_call 104; refine K2.out.mono ?_; rintro e2 w3 ⟨rfl, rfl⟩)
            go_roundw
            case rel => exact ⟨n + 1, by omega, by go_num, Lib.hid ⟨by rw [EN.out]; exact HT4.out.own, ⟨_, rfl, HT4.out.tak⟩, HT4.out.below, Nat.le_refl _⟩⟩
            case measure => simp [intOf]; omega
    · obtain rfl : n = 256 := by omega
      go_wp2_with fail
      go_ret
      exact ⟨_, rfl, hs.out.own, hs.out.below⟩
end Go.Proofs.YtilbkgnjgmlhjaaDoor
