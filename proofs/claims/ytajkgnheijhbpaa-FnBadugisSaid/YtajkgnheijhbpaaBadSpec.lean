/-
  The model's cards that a badugi takes.
-/
import Derived.Test.YtajkgnheijhbpaaCmpLists
import Derived.Test.YtajkgnheijhbpaaDownSpec
import Derived.Test.YtajkgnheijhbpaaLowRanksFns
import Derived.Test.YtajkgnheijhbpaaChoiceSpec
namespace Go.Proofs.Ytajkgnheijhbpaa
open Go.RowKit
set_option linter.unusedVariables false

theorem getD_mapL (f : List Int → List Int) (l : List (List Int)) (i : Nat) (h : i < l.length) : (l.map f).getD i [] = f (l.getD i []) := by
  rw [List.getD_eq_getElem?_getD, List.getD_eq_getElem?_getD, List.getElem?_map, List.getElem?_eq_getElem h]; rfl
theorem downA_len (xs : List Int) : (downA xs).length = xs.length := (downA_facts xs).1.length_eq
/-- The best so far, or none. -/
def bsO (L : List (List Int)) (m : Nat) : List Int := (bst L m).getD []
theorem bsO_none {L : List (List Int)} {m : Nat} (h : bst L m = none) : bsO L m = [] := by unfold bsO; rw [h]; rfl
theorem bsO_some {L : List (List Int)} {m : Nat} {b : List Int} (h : bst L m = some b) : bsO L m = b := by unfold bsO; rw [h]; rfl
/-- What the model's search leaves. -/
def BadL (xs : List Int) (w : World) (e : Ending) (w' : World) : Prop := ∃ (ys : List Int) (A : Option Addr) (cc : Nat), e = .returned (.slice A ys.length cc) ∧ Own w' w.heap.size (.slice A ys.length cc) ys ∧ IsBad xs ys ∧ Below w.heap.size w w'
/-- No candidates of more than j cards. -/
def NoMore (xs : List Int) (j : Nat) : Prop := ∀ m, j < m → m ≤ 4 → ∀ zs, ¬ Cand m xs zs
theorem downs_facts (j : Nat) (xs : List Int) (hc : cardsB xs = true) : let L := (ch j xs).map downA
    (∀ i, i < L.length → (L.getD i []).length = j) ∧ (∀ i, i < L.length → ∀ x ∈ L.getD i [], 0 ≤ x ∧ x < 52) ∧ (bst L L.length = none → ∀ ys, ¬ Cand j xs ys) ∧ (∀ b, bst L L.length = some b → Best j xs b) ∧ (∀ i, i ≤ L.length → ∀ b, bst L i = some b → b.length = j ∧ ∀ x ∈ b, 0 ≤ x ∧ x < 52) := by
  intro L
  have hcs := (cards_iff xs).1 hc
  have hmem : ∀ i, i < L.length → L.getD i [] ∈ L := fun i hi => by
    rw [List.getD_eq_getElem?_getD, List.getElem?_eq_getElem hi]; exact List.getElem_mem _
  have hall : ∀ t ∈ L, t.length = j ∧ ∀ x ∈ t, 0 ≤ x ∧ x < 52 := fun t ht => by
    obtain ⟨s, hs, rfl⟩ := List.mem_map.1 ht
    obtain ⟨h1, h2⟩ := ch_mem j xs s hs
    obtain ⟨d1, _⟩ := downA_facts s
    exact ⟨d1.length_eq.trans h2, fun x hx => hcs.1 x (h1.subset (d1.mem_iff.1 hx))⟩
  have hn : ∀ i, i < L.length → (L.getD i []).length = j := fun i hi => (hall _ (hmem i hi)).1
  obtain ⟨c1, c2⟩ := cand_downs (n := j) hc
  obtain ⟨b1, b2⟩ := bst_best j xs hn c1 c2
  refine ⟨hn, fun i hi => (hall _ (hmem i hi)).2, b1, b2, fun i hi b h => ?_⟩
  obtain ⟨⟨k, hk, e⟩, _⟩ := (bst_facts L j hn i hi).2 b h
  rw [e]
  exact hall _ (hmem k (by omega))
set_option maxRecDepth 100000 in
set_option maxHeartbeats 8000000 in
theorem l05Badugi_any (A : Option Addr) (c : Nat) (xs : List Int) (w : World) (hr : Rd w A xs) (h4 : xs.length = 4) (hcap : 4 ≤ c) (hc : cardsB xs = true) :
    Calls Try.prog 50 #[.slice A 4 c] w (BadL xs w) := by
  have HR := Lib.hid hr
  have HC := Lib.hid hc
  have H4 := Lib.hid h4
  have HCS := Lib.hid ((cards_iff xs).1 hc).1
  have KCH : Hid (∀ (k : Nat) (W : World), k ≤ 4 → Below w.heap.size w W → Calls Try.prog 84 #[.slice A 4 c, .int .i64 k] W (ChFam k xs W)) := Lib.hid (fun k W hk hb => by
    have := choices_all k (by omega) A c xs W (hr.below hb) (by omega) (by omega)
    rw [h4] at this
    exact this)
  clear hr hc h4
  obtain ⟨w0, rfl⟩ : ∃ w0 : World, w0 = w := ⟨w, rfl⟩
  go_enter Try.func50, Try.ntmps50
  go_wp2_with fail
  go_loopw [3] (fun n wr => ∃ j : Nat, j < 4 ∧ n = .int .i64 ((j : Int) + 1) ∧ Hid (NoMore xs (j + 1)) ∧ Hid (Below w0.heap.size w0 wr)) (fun n _ => (intOf n).toNat)
  case atStart => exact ⟨3, by omega, rfl, Lib.hid (fun m h1 h2 => by omega), Lib.hid (bl_refl _)⟩
  case round =>
    obtain ⟨j0, hj4, rfl, hno, hb⟩ := hrel
    rcases j0 with _ | j
    · have hj0 : (((0 : Nat) : Int) + 1) = 1 := rfl
      rw [hj0]
      clear KCH hj0
      obtain ⟨bA, oA, rfl, hcA⟩ := HR.out (by rw [H4.out]; omega)
      have HCA := Lib.hid hcA
      have c0 := (hb.out.cell (p := ⟨bA, oA + 0, none⟩) (World.block_lt_of_cell? _ _ (hcA 0 (by rw [H4.out]; omega)))).trans (hcA 0 (by rw [H4.out]; omega))
      rw [Nat.add_zero] at c0
      have HL0 : Hid (nth xs 0 = low1 xs 0) := Lib.hid rfl
      rw [HL0.out] at c0
      clear hcA
      go_wp2_with fail
      go_loopw [8, 9] (fun v i wx => ∃ k : Nat, k < 4 ∧ i = .int .i64 ((k : Int) + 1) ∧ v = .int .i64 (low1 xs k) ∧ Hid (Below w0.heap.size w0 wx)) (fun _ i _ => 5 - (intOf i).toNat)
      case atStart => exact ⟨0, by omega, rfl, rfl, hb⟩
      case round =>
        obtain ⟨k, hk, rfl, rfl, hb2⟩ := hrel
        by_cases hlt : k + 1 < 4
        · have hlt' : (k : Int) + 1 < 4 := by omega
          have hkk : ((k : Int) + 1).toNat = k + 1 := by omega
          have hq := HCA.out (k + 1) (by rw [H4.out]; omega)
          have c1 := (hb2.out.cell (p := ⟨bA, oA + (k + 1), none⟩) (World.block_lt_of_cell? _ _ hq)).trans hq
          have hx := HCS.out _ (nth_mem xs (k + 1) (by rw [H4.out]; omega))
          have hbx := HCS.out _ (low1_facts xs k (by rw [H4.out]; omega)).1
          have EL : Hid (low1 xs (k + 1) = if lt1 (nth xs (k + 1)) (low1 xs k) = true then nth xs (k + 1) else low1 xs k) := Lib.hid rfl
          generalize nth xs (k + 1) = x at *
          generalize low1 xs k = y at *
          have KX := Lib.hid (fun W => l05Rank_any x W hx.1 hx.2)
          have KY := Lib.hid (fun W => l05Rank_any y W hbx.1 hbx.2)
          have EQ : Hid (lt1 x y = decide (lr x < lr y ∨ (lr x = lr y ∧ x < y))) := Lib.hid rfl
          generalize lr x = rx at *
          generalize lr y = ry at *
          clear hq
          rcases Int.lt_trichotomy rx ry with hl | hl | hl
          · have E2 : Hid (low1 xs (k + 1) = x) := Lib.hid (by rw [EL.out]; exact if_pos (by rw [EQ.out]; simp; omega))
            go_wp2_with (first
              | (go_at_call 89; ((with_reducible refine (KX.out _).mono ?_); rintro e w2 ⟨rfl, rfl⟩))
              | (go_at_call 89; ((with_reducible refine (KY.out _).mono ?_); rintro e w2 ⟨rfl, rfl⟩)))
            go_roundw
            case rel => exact ⟨k + 1, by omega, by go_num, by rw [E2.out], hb2⟩
            case measure => simp [intOf]; omega
          · by_cases hxy : x < y
            · have E2 : Hid (low1 xs (k + 1) = x) := Lib.hid (by rw [EL.out]; exact if_pos (by rw [EQ.out]; simp; omega))
              subst hl
              go_wp2_with (first
                | (go_at_call 89; ((with_reducible refine (KX.out _).mono ?_); rintro e w2 ⟨rfl, rfl⟩))
                | (go_at_call 89; ((with_reducible refine (KY.out _).mono ?_); rintro e w2 ⟨rfl, rfl⟩)))
              go_roundw
              case rel => exact ⟨k + 1, by omega, by go_num, by rw [E2.out], hb2⟩
              case measure => simp [intOf]; omega
            · have E2 : Hid (low1 xs (k + 1) = y) := Lib.hid (by rw [EL.out]; exact if_neg (by rw [EQ.out]; simp; omega))
              subst hl
              go_wp2_with (first
                | (go_at_call 89; ((with_reducible refine (KX.out _).mono ?_); rintro e w2 ⟨rfl, rfl⟩))
                | (go_at_call 89; ((with_reducible refine (KY.out _).mono ?_); rintro e w2 ⟨rfl, rfl⟩)))
              go_roundw
              case rel => exact ⟨k + 1, by omega, by go_num, by rw [E2.out], hb2⟩
              case measure => simp [intOf]; omega
          · have E2 : Hid (low1 xs (k + 1) = y) := Lib.hid (by rw [EL.out]; exact if_neg (by rw [EQ.out]; simp; omega))
            have hl2 : ¬ rx < ry := by omega
            have hl3 : (rx == ry) = false := by simp; omega
            go_wp2_with (first
              | (go_at_call 89; ((with_reducible refine (KX.out _).mono ?_); rintro e w2 ⟨rfl, rfl⟩))
              | (go_at_call 89; ((with_reducible refine (KY.out _).mono ?_); rintro e w2 ⟨rfl, rfl⟩)))
            go_roundw
            case rel => exact ⟨k + 1, by omega, by go_num, by rw [E2.out], hb2⟩
            case measure => simp [intOf]; omega
        · obtain rfl : k = 3 := by omega
          have HBE := Lib.hid (best_low1 xs (by rw [H4.out]; omega))
          rw [H4.out] at HBE
          change Hid (Best 1 xs [low1 xs 3]) at HBE
          generalize low1 xs 3 = z at *
          go_wp2_with fail
          go_ret
          exact ⟨[z], some ⟨wr.heap.size, 0, none⟩, 1, rfl, (own_one wr z).less hb2.out.size, ⟨1, by omega, HBE.out, hno.out⟩, bl_alloc hb2.out _⟩
    · have hj1 : (((j + 1 : Nat) : Int) + 1) = (j : Int) + 2 := by omega
      rw [hj1]
      clear hj1
      have KC1 : Hid (Calls Try.prog 84 #[.slice A 4 c, .int .i64 ((j : Int) + 2)] wr (ChFam (j + 2) xs wr)) := Lib.hid (KCH.out (j + 2) wr (by omega) hb.out)
      obtain ⟨f1, f2, f3, f4, f5⟩ := downs_facts (j + 2) xs HC.out
      have hNL : (ch (j + 2) xs).length ≤ 70 := ch_le (j + 2) xs (by omega) (by rw [H4.out]; omega)
      have HRL := Lib.hid (fun i hi => ch_rowlen (j + 2) xs i hi)
      have HRC : Hid (∀ i, i < (ch (j + 2) xs).length → ∀ x ∈ (ch (j + 2) xs).getD i [], 0 ≤ x ∧ x < 52) := Lib.hid (fun i hi x hx => by
        have hm : (ch (j + 2) xs).getD i [] ∈ ch (j + 2) xs := by rw [List.getD_eq_getElem?_getD, List.getElem?_eq_getElem hi]; exact List.getElem_mem _
        exact HCS.out x ((ch_mem (j + 2) xs _ hm).1.subset hx))
      have F1 := Lib.hid f1
      have F2 := Lib.hid f2
      have F3 := Lib.hid f3
      have F4 := Lib.hid f4
      have F5 := Lib.hid f5
      have HLM : Hid (∀ i, i < (ch (j + 2) xs).length → ((ch (j + 2) xs).map downA).getD i [] = downA ((ch (j + 2) xs).getD i [])) := Lib.hid (fun i hi => getD_mapL downA _ i hi)
      have HLL : Hid (((ch (j + 2) xs).map downA).length = (ch (j + 2) xs).length) := Lib.hid (by rw [List.length_map])
      clear f1 f2 f3 f4 f5
      generalize (ch (j + 2) xs).map downA = L at *
      go_wp2_with (go_at_call 84; refine KC1.out.mono ?_; rintro e w1 ⟨A', c', AA, CC, rfl, hF, hb1⟩; have HF := Lib.hid hF; have B1 := Lib.hid (bl_trans hb.out hb1); clear hF hb1)
      clear KC1 KCH
      generalize hch : ch (j + 2) xs = CH at *
      clear hch
      go_loopw [5, 6] (fun v i wx => ∃ (m : Nat) (bs : List Int) (P : Option Addr) (cc : Nat), m ≤ CH.length ∧ i = .int .i64 m ∧ v = .slice P bs.length cc ∧ Hid (Own wx w1.heap.size (.slice P bs.length cc) bs) ∧ Hid (bs = bsO L m) ∧ Hid (Below w1.heap.size w1 wx)) (fun _ i _ => CH.length - (intOf i).toNat)
      case atStart => exact ⟨0, [], some ⟨w1.heap.size, 0, none⟩, 0, by omega, rfl, rfl, Lib.hid (own_new w1), Lib.hid rfl, Lib.hid (bl_alloc (bl_refl _) _)⟩
      case round =>
        obtain ⟨m, bs, P, cc, hm, rfl, rfl, ho, hbs, hb2⟩ := hrel
        by_cases hlt : m < CH.length
        · have hlt' : (m : Int) < CH.length := by omega
          obtain ⟨g, off, rfl, hcm⟩ := HF.out.at_ hb2.out m hlt
          have hrl := HRL.out m hlt
          have KD : Hid (Calls Try.prog 85 #[.slice (AA m) (CH.getD m []).length (CC m)] wr (NewL (downA (CH.getD m [])) wr)) := Lib.hid (down_any (AA m) (CC m) (CH.getD m []) wr ((HF.out.below hb2.out).row m hlt).rd (by omega) (HRC.out m hlt))
          rw [← HLM.out m hlt] at KD
          rw [hrl] at hcm KD
          have hyl := F1.out m (by rw [HLL.out]; exact hlt)
          have hyc := F2.out m (by rw [HLL.out]; exact hlt)
          have BN := Lib.hid (fun h => @bst_no L m h)
          have BF := Lib.hid (fun h h2 => @bst_first L m h h2)
          have BY := Lib.hid (fun b h h2 h3 => @bst_yes L m b h h2 h3)
          have BK := Lib.hid (fun b h h2 => @bst_keep L m b h h2)
          have F5m := Lib.hid (F5.out m (by rw [HLL.out]; exact hm))
          generalize L.getD m [] = ys at *
          have KA := Lib.hid (fun (A : Option Addr) (cA : Nat) (W : World) (h : Rd W A ys) => l05Apart_any A cA ys W h (by omega) hyc)
          rw [hyl] at KA
          unfold NewL at KD
          rw [hyl] at KD
          have HYC := Lib.hid hyc
          have HYL := Lib.hid hyl
          clear hyc hrl
          rcases hap : apartB ys with _ | _
          · rw [hap] at KA
            have E2 : Hid (bs = bsO L (m + 1)) := Lib.hid (by rw [hbs.out]; unfold bsO; rw [BN.out hap])
            clear hap
            go_wp2_with (first
              | (go_at_call 85; refine KD.out.mono ?_; rintro e w3 ⟨A3, c3, rfl, ho3, hb3⟩; have R3 := Lib.hid ho3; have X3 := Lib.hid hb3; clear ho3 hb3)
              | (go_at_call 86; refine (KA.out _ _ _ (Own.rd (by rw [HYL.out]; exact R3.out))).mono ?_; rintro e w4 ⟨rfl, hb4⟩; have X4 := Lib.hid (bl_trans X3.out hb4); clear hb4))
            go_roundw
            case rel => exact ⟨m + 1, bs, P, cc, by omega, by go_num, rfl, Lib.hid (ho.out.below X4.out), E2, Lib.hid (bl_trans hb2.out X4.out)⟩
            case measure => simp [intOf]; omega
          · rw [hap] at KA
            rcases hbst : bst L m with _ | b
            · obtain rfl : bs = [] := by rw [hbs.out, bsO_none hbst]
              have E2 : Hid (ys = bsO L (m + 1)) := Lib.hid (by unfold bsO; rw [BF.out hap hbst]; rfl)
              clear hap hbst
              go_wp2_with (first
                | (go_at_call 85; refine KD.out.mono ?_; rintro e w3 ⟨A3, c3, rfl, ho3, hb3⟩; have R3 := Lib.hid ho3; have X3 := Lib.hid hb3; clear ho3 hb3)
                | (go_at_call 86; refine (KA.out _ _ _ (Own.rd (by rw [HYL.out]; exact R3.out))).mono ?_; rintro e w4 ⟨rfl, hb4⟩; have X4 := Lib.hid (bl_trans X3.out hb4); have R4 : Hid (Own w4 wr.heap.size (.slice A3 ys.length c3) ys) := Lib.hid (by rw [HYL.out]; exact R3.out.below hb4); have RB4 := Lib.hid (ho.out.below X4.out); clear hb4))
              have R9' := Lib.hid (R4.out.below (bl_refl _))
              go_roundw
              case rel => exact ⟨m + 1, ys, A3, c3, by omega, by go_num, by rw [HYL.out], Lib.hid (R9'.out.less hb2.out.size), E2, Lib.hid (bl_trans hb2.out (bl_trans X4.out (bl_refl _)))⟩
              case measure => simp [intOf]; omega
            · obtain rfl : bs = b := by rw [hbs.out, bsO_some hbst]
              obtain ⟨hbl, hbc⟩ := F5m.out bs hbst
              have hbl0 : ((bs.length : Int) == 0) = false := by rw [beq_eq_false_iff_ne]; omega
              have BY2 := Lib.hid (BY.out bs hap hbst)
              have BK2 := Lib.hid (BK.out bs hbst)
              have HBST := Lib.hid hbst
              have ELT := Lib.hid (ltB_or ys bs)
              have hrl1 : (lrs ys).length = j + 2 := by rw [lrs_len]; exact HYL.out
              have hrl2 : (lrs bs).length = j + 2 := by rw [lrs_len]; exact hbl
              have GRy : Hid (∀ (A : Option Addr) (cA : Nat) (W : World), Rd W A ys → Calls Try.prog 52 #[.slice A ys.length cA] W (NewL (lrs ys) W)) := Lib.hid (fun A cA W h => l05Ranks_any A cA ys W h (by omega) HYC.out)
              have GRb : Hid (∀ (A : Option Addr) (cA : Nat) (W : World), Rd W A bs → Calls Try.prog 52 #[.slice A bs.length cA] W (NewL (lrs bs) W)) := Lib.hid (fun A cA W h => l05Ranks_any A cA bs W h (by omega) hbc)
              have GL1 : Hid (∀ (A B : Option Addr) (c d : Nat) (W : World), Rd W A (lrs ys) → Rd W B (lrs bs) → Calls Try.prog 87 #[.slice A (lrs ys).length c, .slice B (lrs bs).length d] W (Fresh (.bool (lexLt (lrs ys) (lrs bs))) W)) := Lib.hid (fun A B c d W q1 q2 => l05Less_any A B c d _ _ W q1 q2 (by omega) (by omega))
              have GS1 : Hid (∀ (A B : Option Addr) (c d : Nat) (W : World), Rd W A (lrs ys) → Rd W B (lrs bs) → Calls Try.prog 88 #[.slice A (lrs ys).length c, .slice B (lrs bs).length d] W (Fresh (.bool (decide (lrs ys = lrs bs))) W)) := Lib.hid (fun A B c d W q1 q2 => l01Same_any A B c d _ _ W q1 q2 (by omega) (by omega))
              have GL2 : Hid (∀ (A B : Option Addr) (c d : Nat) (W : World), Rd W A ys → Rd W B bs → Calls Try.prog 87 #[.slice A ys.length c, .slice B bs.length d] W (Fresh (.bool (lexLt ys bs)) W)) := Lib.hid (fun A B c d W q1 q2 => l05Less_any A B c d _ _ W q1 q2 (by have := HYL.out; omega) (by omega))
              rw [HYL.out] at GRy GL2
              generalize lexLt (lrs ys) (lrs bs) = r1 at *
              generalize decide (lrs ys = lrs bs) = r2 at *
              generalize lexLt ys bs = r3 at *
              generalize lrs ys = uy at *
              generalize lrs bs = ub at *
              have HBL := Lib.hid hbl
              clear hrl1 hrl2 hap hbst hbc hbl
              have E2 : Hid ((ltB ys bs = true → ys = bsO L (m + 1)) ∧ (ltB ys bs = false → bs = bsO L (m + 1))) := Lib.hid ⟨fun h => by unfold bsO; rw [BY2.out h]; rfl, fun h => by unfold bsO; rw [BK2.out h, HBST.out]; rfl⟩
              rw [ELT.out] at E2
              clear BY2 BK2 HBST ELT BY BK BF BN
              rcases r1 with _ | _
              · rcases r2 with _ | _
                · have E2 := Lib.hid (E2.out.2 (by rfl))
                  go_wp2_with (first
                    | (go_at_call 85; refine KD.out.mono ?_; rintro e w3 ⟨A3, c3, rfl, ho3, hb3⟩; have R3 := Lib.hid ho3; have X3 := Lib.hid hb3; clear ho3 hb3)
                    | (go_at_call 86; refine (KA.out _ _ _ (Own.rd (by rw [HYL.out]; exact R3.out))).mono ?_; rintro e w4 ⟨rfl, hb4⟩; have X4 := Lib.hid (bl_trans X3.out hb4); have R4 : Hid (Own w4 wr.heap.size (.slice A3 ys.length c3) ys) := Lib.hid (by rw [HYL.out]; exact R3.out.below hb4); have RB4 := Lib.hid (ho.out.below X4.out); clear hb4)
                    | (go_at_call 52; ((with_reducible refine (GRy.out _ _ _ (R4.out.rd.below (bl_refl _))).mono ?_); rintro e w5 ⟨P5, q5, rfl, ho5, hb5⟩; have R5 := Lib.hid ho5.rd; have X5 := Lib.hid hb5; clear ho5 hb5))
                    | (go_at_call 52; ((with_reducible refine (GRb.out _ _ _ (RB4.out.rd.below X5.out)).mono ?_); rintro e w6 ⟨P6, q6, rfl, ho6, hb6⟩; have R6 := Lib.hid ho6.rd; have R56 := Lib.hid (R5.out.below hb6); have X6 := Lib.hid (bl_trans X5.out hb6); clear ho6 hb6))
                    | (go_at_call 87; ((with_reducible refine (GL1.out _ _ _ _ _ R56.out R6.out).mono ?_); rintro e w7 ⟨rfl, hb7⟩; have X7 := Lib.hid (bl_trans X6.out hb7); clear hb7))
                    | (go_at_call 52; ((with_reducible refine (GRy.out _ _ _ (R4.out.rd.below X7.out)).mono ?_); rintro e w8 ⟨P8, q8, rfl, ho8, hb8⟩; have R8 := Lib.hid ho8.rd; have X8 := Lib.hid (bl_trans X7.out hb8); clear ho8 hb8))
                    | (go_at_call 52; ((with_reducible refine (GRb.out _ _ _ (RB4.out.rd.below X8.out)).mono ?_); rintro e w9 ⟨P9, q9, rfl, ho9, hb9⟩; have R9 := Lib.hid ho9.rd; have R89 := Lib.hid (R8.out.below hb9); have X9 := Lib.hid (bl_trans X8.out hb9); clear ho9 hb9))
                    | (go_at_call 88; ((with_reducible refine (GS1.out _ _ _ _ _ R89.out R9.out).mono ?_); rintro e w10 ⟨rfl, hb10⟩; have X10 := Lib.hid (bl_trans X9.out hb10); clear hb10)))
                  go_roundw
                  case rel => exact ⟨m + 1, bs, P, cc, by omega, by go_num, rfl, Lib.hid (RB4.out.below X10.out), E2, Lib.hid (bl_trans hb2.out (bl_trans X4.out X10.out))⟩
                  case measure => simp [intOf]; omega
                · rcases r3 with _ | _
                  · have E2 := Lib.hid (E2.out.2 (by rfl))
                    go_wp2_with (first
                      | (go_at_call 85; refine KD.out.mono ?_; rintro e w3 ⟨A3, c3, rfl, ho3, hb3⟩; have R3 := Lib.hid ho3; have X3 := Lib.hid hb3; clear ho3 hb3)
                      | (go_at_call 86; refine (KA.out _ _ _ (Own.rd (by rw [HYL.out]; exact R3.out))).mono ?_; rintro e w4 ⟨rfl, hb4⟩; have X4 := Lib.hid (bl_trans X3.out hb4); have R4 : Hid (Own w4 wr.heap.size (.slice A3 ys.length c3) ys) := Lib.hid (by rw [HYL.out]; exact R3.out.below hb4); have RB4 := Lib.hid (ho.out.below X4.out); clear hb4)
                      | (go_at_call 52; ((with_reducible refine (GRy.out _ _ _ (R4.out.rd.below (bl_refl _))).mono ?_); rintro e w5 ⟨P5, q5, rfl, ho5, hb5⟩; have R5 := Lib.hid ho5.rd; have X5 := Lib.hid hb5; clear ho5 hb5))
                      | (go_at_call 52; ((with_reducible refine (GRb.out _ _ _ (RB4.out.rd.below X5.out)).mono ?_); rintro e w6 ⟨P6, q6, rfl, ho6, hb6⟩; have R6 := Lib.hid ho6.rd; have R56 := Lib.hid (R5.out.below hb6); have X6 := Lib.hid (bl_trans X5.out hb6); clear ho6 hb6))
                      | (go_at_call 87; ((with_reducible refine (GL1.out _ _ _ _ _ R56.out R6.out).mono ?_); rintro e w7 ⟨rfl, hb7⟩; have X7 := Lib.hid (bl_trans X6.out hb7); clear hb7))
                      | (go_at_call 52; ((with_reducible refine (GRy.out _ _ _ (R4.out.rd.below X7.out)).mono ?_); rintro e w8 ⟨P8, q8, rfl, ho8, hb8⟩; have R8 := Lib.hid ho8.rd; have X8 := Lib.hid (bl_trans X7.out hb8); clear ho8 hb8))
                      | (go_at_call 52; ((with_reducible refine (GRb.out _ _ _ (RB4.out.rd.below X8.out)).mono ?_); rintro e w9 ⟨P9, q9, rfl, ho9, hb9⟩; have R9 := Lib.hid ho9.rd; have R89 := Lib.hid (R8.out.below hb9); have X9 := Lib.hid (bl_trans X8.out hb9); clear ho9 hb9))
                      | (go_at_call 88; ((with_reducible refine (GS1.out _ _ _ _ _ R89.out R9.out).mono ?_); rintro e w10 ⟨rfl, hb10⟩; have X10 := Lib.hid (bl_trans X9.out hb10); clear hb10))
                      | (go_at_call 87; ((with_reducible refine (GL2.out _ _ _ _ _ (R4.out.rd.below X10.out) (RB4.out.rd.below X10.out)).mono ?_); rintro e w11 ⟨rfl, hb11⟩; have X11 := Lib.hid (bl_trans X10.out hb11); clear hb11)))
                    go_roundw
                    case rel => exact ⟨m + 1, bs, P, cc, by omega, by go_num, rfl, Lib.hid (RB4.out.below X11.out), E2, Lib.hid (bl_trans hb2.out (bl_trans X4.out X11.out))⟩
                    case measure => simp [intOf]; omega
                  · have E2 := Lib.hid (E2.out.1 (by rfl))
                    go_wp2_with (first
                      | (go_at_call 85; refine KD.out.mono ?_; rintro e w3 ⟨A3, c3, rfl, ho3, hb3⟩; have R3 := Lib.hid ho3; have X3 := Lib.hid hb3; clear ho3 hb3)
                      | (go_at_call 86; refine (KA.out _ _ _ (Own.rd (by rw [HYL.out]; exact R3.out))).mono ?_; rintro e w4 ⟨rfl, hb4⟩; have X4 := Lib.hid (bl_trans X3.out hb4); have R4 : Hid (Own w4 wr.heap.size (.slice A3 ys.length c3) ys) := Lib.hid (by rw [HYL.out]; exact R3.out.below hb4); have RB4 := Lib.hid (ho.out.below X4.out); clear hb4)
                      | (go_at_call 52; ((with_reducible refine (GRy.out _ _ _ (R4.out.rd.below (bl_refl _))).mono ?_); rintro e w5 ⟨P5, q5, rfl, ho5, hb5⟩; have R5 := Lib.hid ho5.rd; have X5 := Lib.hid hb5; clear ho5 hb5))
                      | (go_at_call 52; ((with_reducible refine (GRb.out _ _ _ (RB4.out.rd.below X5.out)).mono ?_); rintro e w6 ⟨P6, q6, rfl, ho6, hb6⟩; have R6 := Lib.hid ho6.rd; have R56 := Lib.hid (R5.out.below hb6); have X6 := Lib.hid (bl_trans X5.out hb6); clear ho6 hb6))
                      | (go_at_call 87; ((with_reducible refine (GL1.out _ _ _ _ _ R56.out R6.out).mono ?_); rintro e w7 ⟨rfl, hb7⟩; have X7 := Lib.hid (bl_trans X6.out hb7); clear hb7))
                      | (go_at_call 52; ((with_reducible refine (GRy.out _ _ _ (R4.out.rd.below X7.out)).mono ?_); rintro e w8 ⟨P8, q8, rfl, ho8, hb8⟩; have R8 := Lib.hid ho8.rd; have X8 := Lib.hid (bl_trans X7.out hb8); clear ho8 hb8))
                      | (go_at_call 52; ((with_reducible refine (GRb.out _ _ _ (RB4.out.rd.below X8.out)).mono ?_); rintro e w9 ⟨P9, q9, rfl, ho9, hb9⟩; have R9 := Lib.hid ho9.rd; have R89 := Lib.hid (R8.out.below hb9); have X9 := Lib.hid (bl_trans X8.out hb9); clear ho9 hb9))
                      | (go_at_call 88; ((with_reducible refine (GS1.out _ _ _ _ _ R89.out R9.out).mono ?_); rintro e w10 ⟨rfl, hb10⟩; have X10 := Lib.hid (bl_trans X9.out hb10); clear hb10))
                      | (go_at_call 87; ((with_reducible refine (GL2.out _ _ _ _ _ (R4.out.rd.below X10.out) (RB4.out.rd.below X10.out)).mono ?_); rintro e w11 ⟨rfl, hb11⟩; have X11 := Lib.hid (bl_trans X10.out hb11); clear hb11)))
                    have R9' := Lib.hid (R4.out.below X11.out)
                    go_roundw
                    case rel => exact ⟨m + 1, ys, A3, c3, by omega, by go_num, by rw [HYL.out], Lib.hid (R9'.out.less hb2.out.size), E2, Lib.hid (bl_trans hb2.out (bl_trans X4.out X11.out))⟩
                    case measure => simp [intOf]; omega
              · have E2 := Lib.hid (E2.out.1 (by rfl))
                go_wp2_with (first
                  | (go_at_call 85; refine KD.out.mono ?_; rintro e w3 ⟨A3, c3, rfl, ho3, hb3⟩; have R3 := Lib.hid ho3; have X3 := Lib.hid hb3; clear ho3 hb3)
                  | (go_at_call 86; refine (KA.out _ _ _ (Own.rd (by rw [HYL.out]; exact R3.out))).mono ?_; rintro e w4 ⟨rfl, hb4⟩; have X4 := Lib.hid (bl_trans X3.out hb4); have R4 : Hid (Own w4 wr.heap.size (.slice A3 ys.length c3) ys) := Lib.hid (by rw [HYL.out]; exact R3.out.below hb4); have RB4 := Lib.hid (ho.out.below X4.out); clear hb4)
                  | (go_at_call 52; ((with_reducible refine (GRy.out _ _ _ (R4.out.rd.below (bl_refl _))).mono ?_); rintro e w5 ⟨P5, q5, rfl, ho5, hb5⟩; have R5 := Lib.hid ho5.rd; have X5 := Lib.hid hb5; clear ho5 hb5))
                  | (go_at_call 52; ((with_reducible refine (GRb.out _ _ _ (RB4.out.rd.below X5.out)).mono ?_); rintro e w6 ⟨P6, q6, rfl, ho6, hb6⟩; have R6 := Lib.hid ho6.rd; have R56 := Lib.hid (R5.out.below hb6); have X6 := Lib.hid (bl_trans X5.out hb6); clear ho6 hb6))
                  | (go_at_call 87; ((with_reducible refine (GL1.out _ _ _ _ _ R56.out R6.out).mono ?_); rintro e w7 ⟨rfl, hb7⟩; have X7 := Lib.hid (bl_trans X6.out hb7); clear hb7)))
                have R9' := Lib.hid (R4.out.below X7.out)
                go_roundw
                case rel => exact ⟨m + 1, ys, A3, c3, by omega, by go_num, by rw [HYL.out], Lib.hid (R9'.out.less hb2.out.size), E2, Lib.hid (bl_trans hb2.out (bl_trans X4.out X7.out))⟩
                case measure => simp [intOf]; omega
        · obtain rfl : m = CH.length := by omega
          rcases hbst : bst L CH.length with _ | b
          · obtain rfl : bs = [] := by rw [hbs.out, bsO_none hbst]
            have HN2 : Hid (NoMore xs (j + 1)) := Lib.hid (fun m h1 h2 zs hz => by
              by_cases e : m = j + 2
              · subst e; exact F3.out (by rw [HLL.out]; exact hbst) zs hz
              · exact hno.out m (by omega) h2 zs hz)
            go_wp2_with fail
            go_roundw
            case rel => exact ⟨j, by omega, by go_num, HN2, Lib.hid (bl_trans B1.out hb2.out)⟩
            case measure => simp [intOf]; omega
          · obtain rfl : bs = b := by rw [hbs.out, bsO_some hbst]
            have hbl := (F5.out CH.length (by rw [HLL.out]; exact Nat.le_refl _) bs hbst).1
            have hbp : (0 : Int) < (bs.length : Int) := by omega
            have HBE := Lib.hid (F4.out bs (by rw [HLL.out]; exact hbst))
            go_wp2_with fail
            go_ret
            exact ⟨bs, P, cc, rfl, ho.out.less B1.out.size, ⟨j + 2, by omega, HBE.out, fun m h1 h2 => hno.out m (by omega) h2⟩, bl_trans B1.out hb2.out⟩
end Go.Proofs.Ytajkgnheijhbpaa
