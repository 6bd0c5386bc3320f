/-
  CountCombos, RangeCombos: the program's.
-/
import Derived.Test.YtjmfecjgomkofabDoorCombosImpl
import Derived.Test.YtjmfecjgomkofabDoorRngCombos
import Derived.Test.YtjmfecjgomkofabDoorRngIs
namespace Go.Proofs.YtjmfecjgomkofabDoor
open Go.RowKit
set_option linter.unusedVariables false

theorem cells2_app (l m : List (Int × Int)) : cells2 (l ++ m) = cells2 l ++ cells2 m := by unfold cells2; rw [List.flatMap_append]
theorem ownG_src {w : World} {b : Nat} {v : Value} {l : List (Int × Int)} (h : OwnG w b v l) : ∃ A c, v = .slice A l.length c ∧ (A = none → l = []) ∧ ∀ ad, A = some ad → ∀ (j : Nat) (u : Value), (cells2 l)[j]? = some u → w.cell? (ad.add j) = some u := by
  have h' := h
  rcases h.2 with ⟨rfl, hn⟩ | ⟨g, cap, cur, rfl, _⟩
  · exact ⟨none, 0, by rw [hn], (fun _ => List.length_eq_zero_iff.1 hn), (fun _ e => by cases e)⟩
  · refine ⟨_, _, rfl, (fun e => by cases e), fun ad e j u hu => ?_⟩
    obtain rfl := Option.some.inj e
    have hj : j < l.length * 2 := by
      have := (List.getElem?_eq_some_iff.1 hu).1
      rw [cells2_len] at this; omega
    rw [Addr.add_mid, Nat.zero_add, World.ownsRow.cellAt h' j hj]
    exact hu
/-- append of a row of pairs to a row of pairs of the call's own. -/
theorem run_glueG (w : World) (ty : TypeId) (lo : Nat) (v : Value) (l m : List (Int × Int)) (A : Option Addr) (c : Nat) (hown : OwnG w lo v l) (hnil : A = none → m = []) (hsrc : ∀ ad, A = some ad → ∀ (j : Nat) (u : Value), (cells2 m)[j]? = some u → w.cell? (ad.add j) = some u)
    (hb : l.length + m.length ≤ 1000000) (hlo : lo ≤ w.heap.size) :
    ∃ v' w', (Builtin.append_ #[73, 73] ty #[v, .slice A m.length c]).run Tryd.prog w = .ok v' w' ∧ OwnG w' lo v' (l ++ m) ∧ w.grownBy w' v.ownBlock ∧ (v'.ownBlock = v.ownBlock ∨ v'.ownBlock = some w.heap.size) := by
  obtain ⟨i0, hi, hz0, hz1, hz2⟩ := info_parts infoTwo
  rcases A with _ | ad
  · obtain rfl := hnil rfl
    refine ⟨v, w, ?_, by rw [List.append_nil]; exact hown, World.grownBy.refl w _, .inl rfl⟩
    rcases hown.2 with ⟨rfl, _⟩ | ⟨g, cap, cur, rfl, _, _, hnc, _⟩
    · simp [Builtin.append_, run_underlying Tryd.underlying73, sizeOf, typeInfo, hi, Builtin.lenOf, Builtin.firstCells]
    · simp [Builtin.append_, run_underlying Tryd.underlying73, sizeOf, typeInfo, hi, Builtin.lenOf, Builtin.firstCells, hnc, storeCells]
  · obtain ⟨v', w', hr, h2, h3, _, h5⟩ := run_append_own_at (P := Tryd.prog) w lo 73 ty 107 i0 (.agg #[.int .i64 0, .int .i64 0]) 2 16 Tryd.underlying73 hi hz0 hz1 hz2 rfl (by decide) v l.length (cells2 l) hown ad m.length c (cells2 m) (by rw [cells2_len, Nat.mul_comm])
      (hsrc ad rfl)
      (fun u hu => by unfold cells2 at hu; obtain ⟨q, _, hq⟩ := List.mem_flatMap.1 hu; simp at hq; rcases hq with rfl | rfl <;> rfl) (by unfold maxLen; omega) (by omega) hlo
    exact ⟨v', w', hr, by unfold OwnG; rw [cells2_app, List.length_append]; exact h2, h3, h5⟩
theorem wpList_glueP {ops : Array Oper} {rest : List Oper} {o : Oper} {a : Act} {w : World} {Q : Exit → Act → World → Prop} (s x : Operand) (hgd : o.guard = none)
    (ho : o.op = .call { callee := .builtin .append, args := #[s, x], argTypes := #[73, 73] })
    (lo : Nat) (v : Value) (l m : List (Int × Int)) (A : Option Addr) (c : Nat) (hs : a.eval s = v) (hown : OwnG w lo v l) (hx : a.eval x = .slice A m.length c) (hnil : A = none → m = []) (hsrc : ∀ ad, A = some ad → ∀ (j : Nat) (u : Value), (cells2 m)[j]? = some u → w.cell? (ad.add j) = some u)
    (hb : l.length + m.length ≤ 1000000) (hlo : lo ≤ w.heap.size)
    (h : ∀ v' w', OwnG w' lo v' (l ++ m) → w.grownBy w' v.ownBlock → wpList Tryd.prog ops Q rest (a.put o.dst v') w') : wpList Tryd.prog ops Q (o :: rest) a w :=
  wpList_plain hgd fun K hK => by
    obtain ⟨v', w', hr, h4, h3, _⟩ := run_glueG w o.type lo v l m A c hown hnil hsrc hb hlo
    unfold Oper.wp execOp
    simp only [ho, resolve, invoke, builtin, Sem.run_bind, Sem.run_pure, Result.andThen_ok, List.map_toArray, List.map_cons, List.map_nil, hs, hx, hr]
    exact hK _ _ (h v' w' h4 h3)
theorem ownG_less {w : World} {lo lo' : Nat} {v : Value} {l : List (Int × Int)} (h : OwnG w lo v l) (hl : lo' ≤ lo) : OwnG w lo' v l := by
  refine ⟨h.1, ?_⟩
  rcases h.2 with hn | ⟨g, cap, cur, rfl, hlo, rest⟩
  · exact .inl hn
  · exact .inr ⟨g, cap, cur, rfl, Nat.le_trans hl hlo, rest⟩
/-- What liveCombos leaves: the combinations in a row of pairs of the call's own, and a code. -/
def LiveG (P : List (Int × Int)) (k : Int) (w : World) (e : Ending) (w' : World) : Prop := ∃ v, e = .returned (.tuple #[v, .int .i64 k]) ∧ OwnG w' w.heap.size v P ∧ Below w.heap.size w w'
theorem liveG_nil {w w' : World} {k : Int} (hb : Below w.heap.size w w') : LiveG [] k w (.returned (.tuple #[.slice none 0 0, .int .i64 k])) w' := ⟨_, rfl, World.ownsRow_nil _ _ _ _, hb⟩
/-- What the loop keeps: the rows of all classes as they were, and a row that they are hung to. -/
def LvSt (w2 : World) (P : List (Int × Int)) (v : Value) (wr : World) : Prop := OwnG wr w2.heap.size v P ∧ Below w2.heap.size w2 wr
theorem lv_start (w2 : World) : LvSt w2 [] (.slice none 0 0) w2 := ⟨World.ownsRow_nil _ _ _ _, bl_refl _⟩
theorem lv_add {w2 wr w' : World} {P P' : List (Int × Int)} {v v' : Value} (h : LvSt w2 P v wr) (ho : OwnG w' w2.heap.size v' P') (hg : wr.grownBy w' v.ownBlock) : LvSt w2 P' v' w' :=
  ⟨ho, h.2.grown hg h.2.size (fun j hj => (World.ownsRow.lt h.1 j hj).1)⟩

set_option maxRecDepth 100000 in
set_option maxHeartbeats 4000000 in
theorem liveCombos_yes (A : Option Addr) (c : Nat) (r : List Int) (E : Option Addr) (d : Nat) (dead : List Int) (B : Nat) (wt w : World) (hr : Rd w A r) (hr2 : Rd w E dead) (hn2 : dead.length ≤ 4000000) (hx : rngB r = true) (hd : cardsB dead = true) (ht : Hid (Tz B wt)) (hB : Hid (Below B wt w)) (hBw : Hid (B ≤ w.heap.size)) :
    Calls Tryd.prog 65 #[.slice A r.length c, .slice E dead.length d] w (LiveG (rcP r dead) 0 w) := by
  have hnr := rng_len hx
  have KI := Lib.hid (fun (c : Nat) => implIsRange_same A c r w hr (by omega))
  rw [hx] at KI
  have KS := Lib.hid (fun (c : Nat) => setOf_any E c dead w hr2 hn2)
  unfold setV at KS
  rw [setI_yes hd, hd] at KS
  have hm := mask_lt dead hd
  have E1 := Lib.hid (u64_rest (maskOf dead) (by omega))
  have KB : Hid (Calls Tryd.prog 47 #[.int .u64 (restM (maskOf dead) : Nat)] w (fun e w' => e = .returned (.map (some w.heap.size)) ∧ ∃ f w1, Hid (Grps w w1 w.heap.size (pairsOf (othersN 52 dead)) f w'))) := Lib.hid (by
    have := combosBy_any (restM (maskOf dead)) B wt w (restM_lt _) (by rw [rest_others dead hd]; exact others_bd dead) ht hB hBw
    rwa [rest_others dead hd] at this)
  have EP := Lib.hid (fun k => combos_others k dead (others_all52 dead))
  have HX := Lib.hid hx
  have HR := Lib.hid hr
  clear hm hd hr hr2 hx
  generalize restM (maskOf dead) = rm at *
  generalize maskOf dead = m at *
  have e1 := E1.out
  obtain ⟨w0, rfl⟩ : ∃ w0 : World, w0 = w := ⟨w, rfl⟩
  go_enter Tryd.func65, Tryd.ntmps65
  go_wp2_with (first
    | (go_at_call 98; refine (KI.out _).mono ?_; rintro e w1 ⟨rfl, rfl⟩)
    | (go_at_call 45; refine (KS.out _).mono ?_; rintro e w1 ⟨rfl, rfl⟩)
    | (go_at_call 47; refine (KB.out).mono ?_; rintro e w2 ⟨rfl, f, wb, hg⟩))
  have HS0 := Lib.hid (lv_start w2)
  have HBL := Lib.hid hg.out.below
  go_loopw [9, 27] (fun v i wr => ∃ k : Nat, k ≤ r.length ∧ i = .int .i64 k ∧ Hid (LvSt w2 (rcP (r.take k) dead) v wr)) (fun _ i _ => r.length - (intOf i).toNat)
  case atStart => exact ⟨0, Nat.zero_le _, rfl, HS0⟩
  case round =>
    obtain ⟨k, hk, rfl, hs⟩ := hrel
    by_cases hlt : k < r.length
    · have hlt' : (k : Int) < r.length := by omega
      obtain ⟨b, off, rfl, hc⟩ := HR.out.at_ (bl_trans HBL.out hs.out.2) k hlt
      have hb := rng_in HX.out k hlt
      have HT : Hid (rcP (r.take (k + 1)) dead = rcP (r.take k) dead ++ combosP (nth r k) dead) := Lib.hid (by rw [take_nth r k hlt, rcP_snoc])
      have HL : Hid ((rcP (r.take k) dead).length ≤ 12 * 169 ∧ (combosP (nth r k) dead).length ≤ 12) := Lib.hid ⟨by
        have h1 := rcP_bd dead (r.take k) (fun x hx => rng_mem HX.out x (List.mem_of_mem_take hx))
        have h2 : (r.take k).length ≤ r.length := by rw [List.length_take]; omega
        have : 12 * (r.take k).length ≤ 12 * 169 := Nat.mul_le_mul_left _ (by omega)
        omega, combosP_12 _ dead hb.1 hb.2⟩
      have hwf : (Lit.int .i64 (nth r k)).wf = true := WalkArith.wf_i64 (by omega)
      have HG := Lib.hid (hg.out.grow hs.out.2)
      have HLK := MapG.lookup HG.out.map hwf
      have HOG := HG.out.rows (nth r k) hb.1 hb.2
      rw [EP.out] at HOG
      obtain ⟨A2, c2, hfk, hnil, hsrc⟩ := ownG_src HOG
      rw [hfk] at HLK
      have HSR := Lib.hid hsrc
      have HNL := Lib.hid hnil
      clear hfk HOG hsrc hnil hwf
      generalize nth r k = x at *
      generalize combosP x dead = Q at *
      generalize rcP (r.take k) dead = P at *
      go_wp2_with (at_builtin; refine wpList_glueP (.tmp 31) (.tmp 34) rfl rfl w2.heap.size u9 P Q A2 c2 rfl hs.out.1 rfl HNL.out HSR.out (by have := HL.out; omega) hs.out.2.size ?_)
      intro v' w5 ho5 hg5
      have HN := Lib.hid (lv_add hs.out ho5 hg5)
      clear ho5 hg5
      go_wp2_with fail
      go_roundw
      case rel => exact ⟨k + 1, by omega, by go_num, by rw [HT.out]; exact HN⟩
      case measure => simp [intOf]; omega
    · obtain rfl : k = r.length := by omega
      rw [take_len] at hs
      go_wp2_with fail
      go_ret2
      exact ⟨_, rfl, ownG_less hs.out.1 HBL.out.size, bl_trans HBL.out hs.out.2⟩

set_option maxRecDepth 100000 in
set_option maxHeartbeats 1000000 in
theorem liveCombos_any (A : Option Addr) (c : Nat) (r : List Int) (E : Option Addr) (d : Nat) (dead : List Int) (B : Nat) (wt w : World) (hr : Rd w A r) (hr2 : Rd w E dead) (hn : r.length ≤ 4000000) (hn2 : dead.length ≤ 4000000) (ht : Hid (Tz B wt)) (hB : Hid (Below B wt w)) (hBw : Hid (B ≤ w.heap.size)) :
    Calls Tryd.prog 65 #[.slice A r.length c, .slice E dead.length d] w (LiveG (liveP r dead) (liveC r dead) w) := by
  by_cases hx : rngB r = true
  · by_cases hd : cardsB dead = true
    · have e := live_yes hx hd
      rw [e.1, e.2]
      exact liveCombos_yes A c r E d dead B wt w hr hr2 hn2 hx hd ht hB hBw
    · have hf : cardsB dead = false := by simpa using hd
      have e := live_dead hx hf
      rw [e.1, e.2]
      have KI := Lib.hid (fun (c : Nat) => implIsRange_same A c r w hr hn)
      rw [hx] at KI
      have KS := Lib.hid (fun (c : Nat) => setOf_any E c dead w hr2 hn2)
      unfold setV at KS
      rw [setI_no hf, hf] at KS
      clear hr hr2 hx hd hf e ht hB hBw
      go_enter Tryd.func65, Tryd.ntmps65
      go_wp2_with (first
        | (go_at_call 98; refine (KI.out _).mono ?_; rintro e w1 ⟨rfl, rfl⟩)
        | (go_at_call 45; refine (KS.out _).mono ?_; rintro e w1 ⟨rfl, rfl⟩))
      go_ret2
      exact liveG_nil (bl_refl _)
  · have hf : rngB r = false := by simpa using hx
    have e := live_bad (dead := dead) hf
    rw [e.1, e.2]
    have KI := Lib.hid (fun (c : Nat) => implIsRange_same A c r w hr hn)
    rw [hf] at KI
    clear hr hr2 hx hf e ht hB hBw
    go_enter Tryd.func65, Tryd.ntmps65
    go_wp2_with (go_at_call 98; refine (KI.out _).mono ?_; rintro e w1 ⟨rfl, rfl⟩)
    go_ret2
    exact liveG_nil (bl_refl _)
set_option maxRecDepth 100000 in
set_option maxHeartbeats 1000000 in
theorem implCountCombos_any (A : Option Addr) (c : Nat) (r : List Int) (E : Option Addr) (d : Nat) (dead : List Int) (B : Nat) (wt w : World) (hr : Rd w A r) (hr2 : Rd w E dead) (hn : r.length ≤ 4000000) (hn2 : dead.length ≤ 4000000) (ht : Hid (Tz B wt)) (hB : Hid (Below B wt w)) (hBw : Hid (B ≤ w.heap.size)) :
    Calls Tryd.prog 32 #[.slice A r.length c, .slice E dead.length d] w (Fresh (pairV ((liveP r dead).length : Nat) (liveC r dead)) w) := by
  have K := Lib.hid (fun (c d : Nat) => liveCombos_any A c r E d dead B wt w hr hr2 hn hn2 ht hB hBw)
  clear hr hr2 ht hB hBw
  generalize liveP r dead = P at *
  generalize liveC r dead = k at *
  go_enter Tryd.func32, Tryd.ntmps32
  go_wp2_with (go_at_call 65; refine (K.out _ _).mono ?_; rintro e w1 ⟨v, rfl, ho, hb⟩; obtain ⟨A1, c1, rfl, _⟩ := ownG_form ho)
  go_ret2
  exact ⟨rfl, hb⟩
set_option maxRecDepth 100000 in
set_option maxHeartbeats 1000000 in
theorem implRangeCombos_any (A : Option Addr) (c : Nat) (r : List Int) (E : Option Addr) (d : Nat) (dead : List Int) (B : Nat) (wt w : World) (hr : Rd w A r) (hr2 : Rd w E dead) (hn : r.length ≤ 4000000) (hn2 : dead.length ≤ 4000000) (ht : Hid (Tz B wt)) (hB : Hid (Below B wt w)) (hBw : Hid (B ≤ w.heap.size)) :
    Calls Tryd.prog 34 #[.slice A r.length c, .slice E dead.length d] w (NewFam (liveP r dead).length (liveR r dead) (liveC r dead) w) := by
  have K := Lib.hid (fun (c d : Nat) => liveCombos_any A c r E d dead B wt w hr hr2 hn hn2 ht hB hBw)
  have HL := Lib.hid (live_bd r dead)
  unfold liveR
  clear hr hr2 ht hB hBw
  generalize liveP r dead = P at *
  generalize liveC r dead = k at *
  go_enter Tryd.func34, Tryd.ntmps34
  go_wp2_with (first
    | (go_at_call 65; refine (K.out _ _).mono ?_; rintro e w1 ⟨v, rfl, ho, hb⟩; obtain ⟨A1, c1, rfl, hcl⟩ := ownG_form ho; have HCL := Lib.hid hcl; have B1 := Lib.hid hb; clear hcl hb ho)
    | (go_at_call 46; refine (comboLists_any A1 c1 P _ (by have := HL.out; omega) HCL.out).mono ?_; rintro e w3 ⟨A3, c3, AA3, CC3, rfl, hf3, hb3⟩; have HF3 := Lib.hid hf3; have HB3 := Lib.hid hb3; clear hf3 hb3))
  go_ret2
  exact ⟨_, _, _, _, rfl, HF3.out.less B1.out.size, bl_trans B1.out HB3.out⟩
end Go.Proofs.YtjmfecjgomkofabDoor
