/-
  CountCombos, RangeCombos: the model's.
-/
import Derived.Test.YtjmfecjgomkofabDoorCombosFilter
import Derived.Test.YtjmfecjgomkofabDoorRngCombos
import Derived.Test.YtjmfecjgomkofabDoorRngIs
namespace Go.Proofs.YtjmfecjgomkofabDoor
open Go.RowKit
set_option linter.unusedVariables false

set_option maxRecDepth 100000 in
set_option maxHeartbeats 1000000 in
theorem l08Code_any (A : Option Addr) (c : Nat) (r : List Int) (E : Option Addr) (d : Nat) (dead : List Int) (w : World) (hr : Rd w A r) (hr2 : Rd w E dead) (hn : r.length ≤ 4000000) (hn2 : dead.length ≤ 4000000) :
    Calls Tryd.prog 63 #[.slice A r.length c, .slice E dead.length d] w (Fresh (.int .i64 (liveC r dead)) w) := by
  have KI := Lib.hid (fun (c : Nat) => specIsRange_any A c r w hr hn)
  have KA := Lib.hid (fun (c : Nat) (W : World) (hb : Below w.heap.size w W) => specAre_any E c dead W (hr2.below hb) hn2)
  by_cases hx : rngB r = true
  · rw [hx] at KI
    by_cases hd : cardsB dead = true
    · have e := (live_yes hx hd).2
      rw [e]
      rw [hd] at KA
      clear hr hr2 hx hd e
      go_enter Tryd.func63, Tryd.ntmps63
      go_wp2_with (first
        | (go_at_call 66; refine (KI.out _).mono ?_; rintro e w1 ⟨rfl, hb1⟩; have B1 := Lib.hid hb1; clear hb1)
        | (go_at_call 49; refine (KA.out _ _ B1.out).mono ?_; rintro e w2 ⟨rfl, hb2⟩; have B2 := Lib.hid (bl_trans B1.out hb2); clear hb2))
      go_ret
      exact ⟨rfl, B2.out⟩
    · have hf : cardsB dead = false := by simpa using hd
      have e := (live_dead hx hf).2
      rw [e]
      rw [hf] at KA
      clear hr hr2 hx hd hf e
      go_enter Tryd.func63, Tryd.ntmps63
      go_wp2_with (first
        | (go_at_call 66; refine (KI.out _).mono ?_; rintro e w1 ⟨rfl, hb1⟩; have B1 := Lib.hid hb1; clear hb1)
        | (go_at_call 49; refine (KA.out _ _ B1.out).mono ?_; rintro e w2 ⟨rfl, hb2⟩; have B2 := Lib.hid (bl_trans B1.out hb2); clear hb2))
      go_ret
      exact ⟨rfl, B2.out⟩
  · have hf : rngB r = false := by simpa using hx
    have e := (live_bad (dead := dead) hf).2
    rw [e]
    rw [hf] at KI
    clear hr hr2 hx hf e
    go_enter Tryd.func63, Tryd.ntmps63
    go_wp2_with (go_at_call 66; refine (KI.out _).mono ?_; rintro e w1 ⟨rfl, hb1⟩; have B1 := Lib.hid hb1; clear hb1)
    go_ret
    exact ⟨rfl, B1.out⟩

/-! Families hung to a row of slices. -/
/-- What hangs there: the first K of the rows, then those of a family. -/
def joinA (K : Nat) (AA BB : Nat → Option Addr) : Nat → Option Addr := fun j => if j < K then AA j else BB (j - K)
def joinC (K : Nat) (CC DD : Nat → Nat) : Nat → Nat := fun j => if j < K then CC j else DD (j - K)
theorem cellsS_join (K H n : Nat) (AA BB : Nat → Option Addr) (CC DD : Nat → Nat) : cellsS (K + H) (joinA K AA BB) (joinC K CC DD) n = cellsS K AA CC n ++ cellsS H BB DD n := by
  unfold cellsS
  rw [List.range_add, List.map_append, List.map_map]
  congr 1
  · apply List.map_congr_left
    intro j hj
    have := List.mem_range.1 hj
    unfold joinA joinC
    rw [if_pos this, if_pos this]
  · apply List.map_congr_left
    intro j hj
    have h1 : ¬ K + j < K := by omega
    have h2 : K + j - K = j := by omega
    simp only [Function.comp, joinA, joinC, if_neg h1, h2]
theorem hang_fam {w wr w3 w4 : World} {K H n : Nat} {R R' : Nat → List Int} {AA BB : Nat → Option Addr} {CC DD : Nat → Nat} {v v' : Value} {A : Option Addr} (h : Hang w K n R AA CC v wr) (hb : Below wr.heap.size wr w3) (hf : Fam w3 wr.heap.size A H R' BB DD) (hR : ∀ j, j < H → R' j = R (K + j)) (hl : ∀ j, j < H → (R' j).length = n)
    (hown : w4.ownsRow w.heap.size 24 1 v' (K + H) (cellsS K AA CC n ++ cellsS H BB DD n)) (hg : w3.grownBy w4 v.ownBlock) (hv : v'.ownBlock = v.ownBlock ∨ v'.ownBlock = some w3.heap.size) :
    Hang w (K + H) n R (joinA K AA BB) (joinC K CC DD) v' w4 := by
  have h3 := h.next hb
  have hlo : ∀ j, v.ownBlock = some j → w.heap.size ≤ j ∧ j < wr.heap.size := fun j hj => World.ownsRow.lt h.out j hj
  have hold : ∀ j, j < K → ∀ a, AA j = some a → a.block < wr.heap.size := fun j hj a e => ((h.row j hj).1 a e).2
  have hnew : ∀ j, j < H → ∀ a, BB j = some a → wr.heap.size ≤ a.block ∧ a.block < w3.heap.size := fun j hj a e => (hf.row j hj).1 a e
  have hwr := h.below.size
  have hz := hb.size
  refine ⟨by rw [cellsS_join]; exact hown, fun j hj => ?_, fun j hj => ?_, fun j hj a e => ?_, fun i hi j hj hne a e b e' => ?_, ?_⟩
  · by_cases q : j < K
    · have := (h3.row j q).grown hg (fun a ha => h.off j q a ha)
      simpa [joinA, q] using this
    · have hj2 : j - K < H := by omega
      have := ((hf.row (j - K) hj2).less (lo' := w.heap.size) hwr).grown hg (fun a ha e => by
        have := hnew _ hj2 a ha
        have := hlo _ e.symm
        omega)
      rw [hR _ hj2, show K + (j - K) = j by omega] at this
      simpa [joinA, q] using this
  · by_cases q : j < K
    · exact h.len j q
    · have hj2 : j - K < H := by omega
      have := hl _ hj2
      rwa [hR _ hj2, show K + (j - K) = j by omega] at this
  · intro q2
    by_cases q : j < K
    · simp [joinA, q] at e
      rcases hv with hv | hv
      · rw [hv] at q2; exact h.off j q a e q2
      · rw [hv] at q2
        have := Option.some.inj q2
        have := hold j q a e
        omega
    · have hj2 : j - K < H := by omega
      simp [joinA, q] at e
      have h1 := hnew _ hj2 a e
      rcases hv with hv | hv
      · rw [hv] at q2
        have := hlo _ q2.symm
        omega
      · rw [hv] at q2
        have := Option.some.inj q2
        omega
  · by_cases qi : i < K
    · simp [joinA, qi] at e
      by_cases qj : j < K
      · simp [joinA, qj] at e'
        exact h.apart i qi j qj hne a e b e'
      · simp [joinA, qj] at e'
        have := hold i qi a e
        have := hnew _ (show j - K < H by omega) b e'
        omega
    · simp [joinA, qi] at e
      by_cases qj : j < K
      · simp [joinA, qj] at e'
        have := hold j qj b e'
        have := hnew _ (show i - K < H by omega) a e
        omega
      · simp [joinA, qj] at e'
        exact hf.apart (i - K) (by omega) (j - K) (by omega) (by omega) a e b e'
  · exact (bl_trans h.below hb).grown hg (by omega) (fun j hj => (hlo j hj).1)
theorem cellsS_len (K n : Nat) (AA : Nat → Option Addr) (CC : Nat → Nat) : (cellsS K AA CC n).length = K := by simp [cellsS]
/-- append of a family of rows to a row of slices. -/
theorem wpList_hangF {ops : Array Oper} {rest : List Oper} {o : Oper} {a : Act} {w : World} {Q : Exit → Act → World → Prop} (s x : Operand) (hgd : o.guard = none)
    (ho : o.op = .call { callee := .builtin .append, args := #[s, x], argTypes := #[27, 27] })
    (lo lo2 : Nat) (v : Value) (K H n : Nat) (cells : List Value) (R : Nat → List Int) (BB : Nat → Option Addr) (DD : Nat → Nat) (A : Option Addr) (c : Nat) (hs : a.eval s = v) (hown : w.ownsRow lo 24 1 v K cells) (hx : a.eval x = .slice A H c) (hf : Fam w lo2 A H R BB DD) (hl : ∀ j, j < H → (R j).length = n) (hb : K + H ≤ 1000000) (hlo : lo ≤ w.heap.size)
    (h : ∀ v' w', w'.ownsRow lo 24 1 v' (K + H) (cells ++ cellsS H BB DD n) → w.grownBy w' v.ownBlock → (v'.ownBlock = v.ownBlock ∨ v'.ownBlock = some w.heap.size) → wpList Tryd.prog ops Q rest (a.put o.dst v') w') : wpList Tryd.prog ops Q (o :: rest) a w :=
  wpList_plain hgd fun K' hK => by
    obtain ⟨iS, hiS, hzS0, hzS1, hzS2⟩ := info_parts infoSlice
    rcases A with _ | ad
    · have h0 : H = 0 := by
        by_cases q : 0 < H
        · obtain ⟨g, off, e, _⟩ := hf.outer q
          cases e
        · omega
      subst h0
      have hr : (Builtin.append_ #[27, 27] o.type #[v, .slice none 0 c]).run Tryd.prog w = .ok v w := by
        rcases hown.2 with ⟨rfl, _⟩ | ⟨g, cap, cur, rfl, _, _, hnc, _⟩
        · simp [Builtin.append_, run_underlying Tryd.underlying27, sizeOf, typeInfo, hiS, Builtin.lenOf, Builtin.firstCells]
        · simp [Builtin.append_, run_underlying Tryd.underlying27, sizeOf, typeInfo, hiS, Builtin.lenOf, Builtin.firstCells, hnc, storeCells]
      unfold Oper.wp execOp
      simp only [ho, resolve, invoke, builtin, Sem.run_bind, Sem.run_pure, Result.andThen_ok, List.map_toArray, List.map_cons, List.map_nil, hs, hx, hr]
      exact hK _ _ (h v w (by simpa [cellsS] using hown) (World.grownBy.refl w _) (.inl rfl))
    · obtain ⟨v', w', hr, h2, h3, _, h5⟩ := run_append_own_at (P := Tryd.prog) w lo 27 o.type 24 iS (.slice none 0 0) 1 24 Tryd.underlying27 hiS hzS0 hzS1 hzS2 rfl (by decide) v K cells hown ad H c (cellsS H BB DD n) (by rw [cellsS_len, Nat.mul_one])
        (fun j u hu => by
          have hj : j < H := by have := (List.getElem?_eq_some_iff.1 hu).1; rwa [cellsS_len] at this
          rw [cellsS_get _ _ _ _ _ hj] at hu
          obtain ⟨g, off, e, _, hc⟩ := hf.outer (by omega)
          obtain rfl := Option.some.inj e
          rw [Addr.add_mid, hc j hj, hl j hj]; exact hu)
        (fun u hu => by unfold cellsS at hu; obtain ⟨y, _, rfl⟩ := List.mem_map.1 hu; rfl) (by unfold maxLen; omega) (by omega) hlo
      unfold Oper.wp execOp
      simp only [ho, resolve, invoke, builtin, Sem.run_bind, Sem.run_pure, Result.andThen_ok, List.map_toArray, List.map_cons, List.map_nil, hs, hx, hr]
      exact hK _ _ (h v' w' h2 h3 h5)

theorem rcP_split (r dead : List Int) (k : Nat) (hk : k < r.length) : ∃ qs, rcP r dead = rcP (r.take k) dead ++ (combosP (nth r k) dead ++ qs) := by
  refine ⟨rcP (r.drop (k + 1)) dead, ?_⟩
  have e : r = r.take k ++ (nth r k :: r.drop (k + 1)) := by
    rw [nth_eq r k hk, ← List.drop_eq_getElem_cons hk, List.take_append_drop]
  conv => lhs; rw [e]
  unfold rcP
  rw [List.flatMap_append, List.flatMap_cons]
theorem rc_at {P Q S : List (Int × Int)} {j : Nat} (hj : j < Q.length) : (P ++ (Q ++ S)).getD (P.length + j) (0, 0) = Q.getD j (0, 0) := by
  rw [List.getD_eq_getElem?_getD, List.getD_eq_getElem?_getD, List.getElem?_append_right (by omega), Nat.add_sub_cancel_left, List.getElem?_append_left hj]
set_option maxRecDepth 100000 in
set_option maxHeartbeats 4000000 in
theorem l08Combos_any (A : Option Addr) (c : Nat) (r : List Int) (E : Option Addr) (d : Nat) (dead : List Int) (w : World) (hr : Rd w A r) (hr2 : Rd w E dead) (hn2 : dead.length ≤ 4000000) (hx : rngB r = true) (hd : cardsB dead = true) :
    Calls Tryd.prog 64 #[.slice A r.length c, .slice E dead.length d] w (NewFam1 (rcP r dead).length (fun j => two ((rcP r dead).getD j (0, 0))) w) := by
  have hnr := rng_len hx
  have HR := Lib.hid hr
  have HX := Lib.hid hx
  have HSP := Lib.hid (fun k hk => rcP_split r dead k hk)
  have HRD : Hid (∀ W, Below w.heap.size w W → Rd W E dead) := Lib.hid (fun W hb => hr2.below hb)
  have KC : Hid (∀ (x : Int) (d : Nat) (W : World), 0 ≤ x → x < 169 → Below w.heap.size w W → Calls Tryd.prog 14 #[.int .i64 x, .slice E dead.length d] W (NewFam (combosP x dead).length (fun j => two ((combosP x dead).getD j (0, 0))) 0 W)) := Lib.hid (fun x d W h0 h1 hb => specCombosWithout_yes x E d dead W (hr2.below hb) hn2 h0 h1 hd)
  clear hr hr2 hx hd
  obtain ⟨R, eR⟩ : ∃ R : Nat → List Int, R = fun j => two ((rcP r dead).getD j (0, 0)) := ⟨_, rfl⟩
  have HRR := Lib.hid eR
  rw [← eR]
  clear eR
  obtain ⟨w0, rfl⟩ : ∃ w0 : World, w0 = w := ⟨w, rfl⟩
  go_enter Tryd.func64, Tryd.ntmps64
  go_wp2_with fail
  have HS0 : Hid (Hang w0 0 2 R (fun _ => none) (fun _ => 0) (.slice (some ⟨w0.heap.size, 0, none⟩) 0 0) (w0.alloc (.cells #[] 24))) := Lib.hid (hang_start w0 2 _ _ _)
  go_loopw [5, 6] (fun v i wr => ∃ (k : Nat) (AA : Nat → Option Addr) (CC : Nat → Nat), k ≤ r.length ∧ i = .int .i64 k ∧ Hid (Hang w0 (rcP (r.take k) dead).length 2 R AA CC v wr)) (fun _ i _ => r.length - (intOf i).toNat)
  case atStart => exact ⟨0, _, _, Nat.zero_le _, rfl, HS0⟩
  case round =>
    obtain ⟨k, AA, CC, hk, rfl, hh⟩ := hrel
    by_cases hlt : k < r.length
    · have hlt' : (k : Int) < r.length := by omega
      obtain ⟨b, off, rfl, hc⟩ := HR.out.at_ hh.out.below k hlt
      have hb := rng_in HX.out k hlt
      have HT : Hid (rcP (r.take (k + 1)) dead = rcP (r.take k) dead ++ combosP (nth r k) dead) := Lib.hid (by rw [take_nth r k hlt, rcP_snoc])
      have HL : Hid ((rcP (r.take k) dead).length ≤ 12 * 169 ∧ (combosP (nth r k) dead).length ≤ 12) := Lib.hid ⟨by
        have h1 := rcP_bd dead (r.take k) (fun x hx => rng_mem HX.out x (List.mem_of_mem_take hx))
        have h2 : (r.take k).length ≤ r.length := by rw [List.length_take]; omega
        have : 12 * (r.take k).length ≤ 12 * 169 := Nat.mul_le_mul_left _ (by omega)
        omega, combosP_12 _ dead hb.1 hb.2⟩
      have HRA : Hid (∀ j, j < (combosP (nth r k) dead).length → two ((combosP (nth r k) dead).getD j (0, 0)) = R ((rcP (r.take k) dead).length + j)) := Lib.hid (fun j hj => by
        obtain ⟨qs, eq⟩ := HSP.out k hlt
        rw [HRR.out]
        simp only
        rw [eq, rc_at hj])
      have KN := Lib.hid (fun (d : Nat) => KC.out (nth r k) d wr hb.1 hb.2 hh.out.below)
      generalize nth r k = x at *
      generalize combosP x dead = Q at *
      generalize rcP (r.take k) dead = P at *
      go_wp2_with (first
        | (go_at_call 14; refine (KN.out _).mono ?_; rintro e w3 ⟨A3, c3, BB, DD, rfl, hf3, hb3⟩; have HF3 := Lib.hid hf3; have HB3 := Lib.hid hb3; clear hf3 hb3)
        | (at_builtin; refine wpList_hangF (.tmp 25) (.tmp 26) rfl rfl w0.heap.size wr.heap.size u5 P.length Q.length 2 (cellsS P.length AA CC 2) _ BB DD A3 c3 rfl ((hh.out.next HB3.out).out) rfl HF3.out (fun j _ => rfl) (by have := HL.out; omega) (Nat.le_trans hh.out.below.size HB3.out.size) ?_))
      intro v' w4 hown4 hg4 hv4
      have HN := Lib.hid (hang_fam hh.out HB3.out HF3.out HRA.out (fun j _ => rfl) hown4 hg4 hv4)
      have HTL : Hid (P.length + Q.length = (rcP (r.take (k + 1)) dead).length) := Lib.hid (by rw [HT.out, List.length_append])
      rw [HTL.out] at HN
      clear hown4 hg4 hv4
      go_wp2_with fail
      go_roundw
      case rel => exact ⟨k + 1, _, _, by omega, by go_num, HN⟩
      case measure => simp [intOf]; omega
    · obtain rfl : k = r.length := by omega
      rw [take_len] at hh
      obtain ⟨A1, c1, rfl, hf⟩ := hh.out.fam2
      have HF := Lib.hid hf
      clear hf
      go_wp2_with fail
      go_ret
      exact ⟨_, _, _, _, rfl, HF.out, hh.out.below⟩

set_option maxRecDepth 100000 in
set_option maxHeartbeats 1000000 in
theorem specCountCombos_any (A : Option Addr) (c : Nat) (r : List Int) (E : Option Addr) (d : Nat) (dead : List Int) (w : World) (hr : Rd w A r) (hr2 : Rd w E dead) (hn : r.length ≤ 4000000) (hn2 : dead.length ≤ 4000000) :
    Calls Tryd.prog 31 #[.slice A r.length c, .slice E dead.length d] w (Fresh (pairV ((liveP r dead).length : Nat) (liveC r dead)) w) := by
  have KC := Lib.hid (fun (c d : Nat) => l08Code_any A c r E d dead w hr hr2 hn hn2)
  by_cases h : rngB r = true ∧ cardsB dead = true
  · obtain ⟨hx, hd⟩ := h
    have e := live_yes hx hd
    have KL := Lib.hid (fun (c d : Nat) (W : World) (hb : Below w.heap.size w W) => l08Combos_any A c r E d dead W (hr.below hb) (hr2.below hb) hn2 hx hd)
    try unfold liveR
    rw [e.2] at KC ⊢
    rw [e.1]
    clear hr hr2 hx hd e
    generalize rcP r dead = P at *
    go_enter Tryd.func31, Tryd.ntmps31
    go_wp2_with (first
      | (go_at_call 63; refine (KC.out _ _).mono ?_; rintro e w1 ⟨rfl, hb1⟩; have B1 := Lib.hid hb1; clear hb1)
      | (go_at_call 64; refine (KL.out _ _ _ B1.out).mono ?_; rintro e w2 ⟨A2, c2, AA, CC, rfl, hf, hb2⟩))
    go_ret2
    exact ⟨rfl, bl_trans B1.out hb2⟩
  · have e : liveP r dead = [] ∧ (liveC r dead = 1 ∨ liveC r dead = 2) := by
      cases hx : rngB r with
      | false => exact ⟨(live_bad hx).1, .inl (live_bad hx).2⟩
      | true =>
        cases hd : cardsB dead with
        | false => exact ⟨(live_dead hx hd).1, .inr (live_dead hx hd).2⟩
        | true => exact (h ⟨hx, hd⟩).elim
    obtain ⟨e1, e2⟩ := e
    rw [e1]
    clear hr hr2 h e1
    generalize liveC r dead = k at *
    rcases e2 with rfl | rfl
    all_goals
      go_enter Tryd.func31, Tryd.ntmps31
      go_wp2_with (go_at_call 63; refine (KC.out _ _).mono ?_; rintro e w1 ⟨rfl, hb1⟩; have B1 := Lib.hid hb1; clear hb1)
      go_ret2
      exact ⟨rfl, B1.out⟩

set_option maxRecDepth 100000 in
set_option maxHeartbeats 1000000 in
theorem specRangeCombos_any (A : Option Addr) (c : Nat) (r : List Int) (E : Option Addr) (d : Nat) (dead : List Int) (w : World) (hr : Rd w A r) (hr2 : Rd w E dead) (hn : r.length ≤ 4000000) (hn2 : dead.length ≤ 4000000) :
    Calls Tryd.prog 33 #[.slice A r.length c, .slice E dead.length d] w (NewFam (liveP r dead).length (liveR r dead) (liveC r dead) w) := by
  have KC := Lib.hid (fun (c d : Nat) => l08Code_any A c r E d dead w hr hr2 hn hn2)
  by_cases h : rngB r = true ∧ cardsB dead = true
  · obtain ⟨hx, hd⟩ := h
    have e := live_yes hx hd
    have KL := Lib.hid (fun (c d : Nat) (W : World) (hb : Below w.heap.size w W) => l08Combos_any A c r E d dead W (hr.below hb) (hr2.below hb) hn2 hx hd)
    unfold liveR
    rw [e.2] at KC ⊢
    rw [e.1]
    clear hr hr2 hx hd e
    generalize rcP r dead = P at *
    go_enter Tryd.func33, Tryd.ntmps33
    go_wp2_with (first
      | (go_at_call 63; refine (KC.out _ _).mono ?_; rintro e w1 ⟨rfl, hb1⟩; have B1 := Lib.hid hb1; clear hb1)
      | (go_at_call 64; refine (KL.out _ _ _ B1.out).mono ?_; rintro e w2 ⟨A2, c2, AA, CC, rfl, hf, hb2⟩))
    go_ret2
    exact ⟨_, _, _, _, rfl, hf.less B1.out.size, bl_trans B1.out hb2⟩
  · have e : liveP r dead = [] ∧ (liveC r dead = 1 ∨ liveC r dead = 2) := by
      cases hx : rngB r with
      | false => exact ⟨(live_bad hx).1, .inl (live_bad hx).2⟩
      | true =>
        cases hd : cardsB dead with
        | false => exact ⟨(live_dead hx hd).1, .inr (live_dead hx hd).2⟩
        | true => exact (h ⟨hx, hd⟩).elim
    obtain ⟨e1, e2⟩ := e
    rw [e1]
    clear hr hr2 h e1
    generalize liveR r dead = R at *
    generalize liveC r dead = k at *
    rcases e2 with rfl | rfl
    all_goals
      go_enter Tryd.func33, Tryd.ntmps33
      go_wp2_with (go_at_call 63; refine (KC.out _ _).mono ?_; rintro e w1 ⟨rfl, hb1⟩; have B1 := Lib.hid hb1; clear hb1)
      go_ret2
      exact newFam_nil B1.out
end Go.Proofs.YtjmfecjgomkofabDoor
