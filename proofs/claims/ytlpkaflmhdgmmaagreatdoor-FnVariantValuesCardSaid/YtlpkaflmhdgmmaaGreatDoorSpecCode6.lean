/-
  The first error that the functions of a variant share: the model's.
-/
import Derived.Test.YtlpkaflmhdgmmaaGreatDoorCodeFor
import Derived.Test.YtlpkaflmhdgmmaaGreatDoorGlue
namespace Go.Proofs.YtlpkaflmhdgmmaaGreatDoor
open Go.RowKit
set_option linter.unusedVariables false

/-- append(list, other...) under a guard: the list is a row of the call's own, the other one reads however it lies. -/
theorem wpList_glueG {ops : Array Oper} {rest : List Oper} {o : Oper} {a : Act} {w : World} {Q : Exit → Act → World → Prop} (s x : Operand) (hw : Region.wanted o (yielded ops a.tmps) = true)
    (ho : o.op = .call { callee := .builtin .append, args := #[s, x], argTypes := #[26, 26] })
    (lo : Nat) (v : Value) (xs ys : List Int) (A : Option Addr) (c : Nat) (hs : a.eval s = v) (hown : Own w lo v xs) (hx : a.eval x = .slice A ys.length c) (hsrc : Rd w A ys) (hb : xs.length + ys.length ≤ 4000000) (hlo : lo ≤ w.heap.size)
    (h : ∀ A' c' ws w', Hid (ws = xs ++ ys) → Own w' lo (.slice A' ws.length c') ws → w.grownBy w' v.ownBlock → wpList Tryz.prog ops Q rest (a.put o.dst (.slice A' ws.length c')) w') : wpList Tryz.prog ops Q (o :: rest) a w :=
  wpList_step fun K hK => by
    rw [if_pos hw]
    obtain ⟨v', w', hr, h4, h3, _⟩ := run_glue w o.type lo v xs ys A c hown hsrc hb hlo
    obtain ⟨A', c', rfl, h5⟩ := own_form h4
    unfold Oper.wp execOp
    simp only [ho, resolve, invoke, builtin, Sem.run_bind, Sem.run_pure, Result.andThen_ok, List.map_toArray, List.map_cons, List.map_nil, hs, hx, hr]
    exact hK _ _ (h A' c' _ w' (Lib.hid rfl) h5 h3)
theorem own_bl {w w1 w2 : World} {lo : Nat} {v : Value} {xs : List Int} (ho : Own w1 lo v xs) (hb : Below w.heap.size w w1) (hl : w.heap.size ≤ lo) (hg : w1.grownBy w2 v.ownBlock) : Below w.heap.size w w2 :=
  hb.grown hg hb.size (fun j hj => Nat.le_trans hl (World.ownsRow.lt ho j hj).1)
set_option maxRecDepth 100000 in
set_option maxHeartbeats 2000000 in
theorem specCode_any (h l m b : Int) (hi : Bool) (lo : Int) (A : Option Addr) (c : Nat) (hs : List Int) (A2 : Option Addr) (c2 : Nat) (bs : List Int) (w : World) (hm64 : i64B m) (hr : Rd w A hs) (hr2 : Rd w A2 bs) (hn : hs.length ≤ 2000000) (hn2 : bs.length ≤ 2000000) :
    Calls Tryz.prog 31 #[vV h l m b hi lo, .slice A hs.length c, .slice A2 bs.length c2] w (Fresh (.int .i64 (codeH h l m b hi lo hs bs)) w) := by
  have K1 := Lib.hid (fun W : World => specIsVar_any h l m b hi lo W hm64)
  have N0 := Lib.hid (blk_new w 25 [.int .i64 h, .int .i64 l, .int .i64 m, .int .i64 b, .bool hi, .int .i64 lo])
  have B0 := Lib.hid (bl_alloc (bl_refl w) (.cells #[.int .i64 h, .int .i64 l, .int .i64 m, .int .i64 b, .bool hi, .int .i64 lo] 25))
  have HR := Lib.hid hr
  have HR2 := Lib.hid hr2
  clear hr hr2
  rcases hv : isVarB h l m b hi lo with _ | _
  · rw [codeH_no hv]
    rw [hv] at K1
    clear hv
    unfold vV at *
    go_enter Tryz.func31, Tryz.ntmps31
    go_wp2_with (go_at_call 54; refine (K1.out _).mono ?_; rintro e w1 ⟨rfl, hb1⟩; have B1 := Lib.hid (bl_trans B0.out hb1); clear hb1)
    go_ret
    exact ⟨rfl, B1.out⟩
  · have hcc := isVar_cards hv
    obtain ⟨⟨f1, f2⟩, ⟨f3, f4⟩, _⟩ := hasCards_iff.1 hcc
    clear hcc
    by_cases e1 : (hs.length : Int) = h
    · by_cases e2 : (bs.length : Int) = b
      · subst e1
        subst e2
        rw [codeH_cards hv]
        rw [hv] at K1
        clear hv
        have KO := Lib.hid (fun (W : World) (hb : Below w.heap.size w W) => own_any A c hs W (HR.out.below hb) (by omega))
        have KA := Lib.hid (fun (A3 : Option Addr) (c3 : Nat) (zs : List Int) (W : World) (he : Hid (zs = hs ++ bs)) (hq : Rd W A3 zs) => specAre_any A3 c3 zs W hq (by rw [he.out, List.length_append]; omega))
        have HB : Hid (hs.length + bs.length ≤ 4000000) := Lib.hid (by omega)
        rcases hca : cardsB (hs ++ bs) with _ | _
        all_goals
          have HCA := Lib.hid hca
          clear hca
          unfold vV at *
          go_enter Tryz.func31, Tryz.ntmps31
          go_wp2_with (first
            | (go_at_call 54; refine (K1.out _).mono ?_; rintro e w1 ⟨rfl, hb1⟩; have N1 := N0.out.below hb1; have B1 := Lib.hid (bl_trans B0.out hb1); clear hb1; obtain ⟨q0, _⟩ := N1.cell 0 _ rfl; obtain ⟨q3, _⟩ := N1.cell 3 _ rfl; clear N1)
            | (go_at_call 56; refine (KO.out _ B1.out).mono ?_; rintro e w2 ⟨A3, c3, rfl, ho2, hb2⟩; have O2 := Lib.hid ho2; have B2 := Lib.hid (bl_trans B1.out hb2); have R2 := Lib.hid (HR2.out.below B2.out); have Z2 := Lib.hid hb2.size; clear ho2 hb2 q0 q3)
            | (at_builtin; refine wpList_glueG (.tmp 24) (.tmp 25) rfl rfl w1.heap.size (.slice A3 hs.length c3) hs bs A2 c2 rfl O2.out rfl R2.out HB.out Z2.out ?_; intro A4 c4 zs w3 e3 ho3 hg3; have B3 := Lib.hid (own_bl O2.out B2.out B1.out.size hg3); have O3 := Lib.hid ho3; clear ho3 hg3)
            | (go_at_call 55; refine (KA.out _ _ _ _ e3 O3.out.rd).mono ?_; rw [e3.out, HCA.out]; rintro e w4 ⟨rfl, hb4⟩; have B4 := Lib.hid (bl_trans B3.out hb4); clear hb4))
          go_ret
          exact ⟨rfl, B4.out⟩
      · rw [codeH_len hv (fun q => e2 q.2)]
        rw [hv] at K1
        clear hv
        subst e1
        unfold vV at *
        go_enter Tryz.func31, Tryz.ntmps31
        go_wp2_with (go_at_call 54; refine (K1.out _).mono ?_; rintro e w1 ⟨rfl, hb1⟩; have N1 := N0.out.below hb1; have B1 := Lib.hid (bl_trans B0.out hb1); clear hb1; obtain ⟨q0, _⟩ := N1.cell 0 _ rfl; obtain ⟨q3, _⟩ := N1.cell 3 _ rfl; clear N1)
        go_ret
        exact ⟨rfl, B1.out⟩
    · rw [codeH_len hv (fun q => e1 q.1)]
      rw [hv] at K1
      clear hv
      unfold vV at *
      go_enter Tryz.func31, Tryz.ntmps31
      go_wp2_with (go_at_call 54; refine (K1.out _).mono ?_; rintro e w1 ⟨rfl, hb1⟩; have N1 := N0.out.below hb1; have B1 := Lib.hid (bl_trans B0.out hb1); clear hb1; obtain ⟨q0, _⟩ := N1.cell 0 _ rfl; obtain ⟨q3, _⟩ := N1.cell 3 _ rfl; clear N1)
      go_ret
      exact ⟨rfl, B1.out⟩
end Go.Proofs.YtlpkaflmhdgmmaaGreatDoor
