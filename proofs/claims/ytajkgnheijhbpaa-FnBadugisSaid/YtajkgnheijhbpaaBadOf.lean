/-
  The program's badugi of four cards.
-/
import Derived.Test.YtajkgnheijhbpaaBadLoop
import Derived.Test.YtajkgnheijhbpaaBadSort
namespace Go.Proofs.Ytajkgnheijhbpaa
open Go.RowKit Go.Sort Go.Lib
set_option linter.unusedVariables false

/-- What badugiOf leaves. -/
def BadR (xs : List Int) (w : World) (e : Ending) (w' : World) : Prop :=
  ∃ (b : List Int) (g : Nat), e = .returned (.slice (some ⟨g, 0, none⟩) b.length b.length) ∧ w.heap.size ≤ g ∧ Blk w' g 2 (ints b) ∧ IsBad xs b ∧ Below w.heap.size w w'
/-- What the copy leaves. -/
def Cloned (xs : List Int) (w : World) (e : Ending) (w' : World) : Prop :=
  ∃ g off c', e = .returned (.slice (some ⟨g, off, none⟩) 4 c') ∧ w.heap.size ≤ g ∧ g < w'.heap.size ∧ (∀ i, i < xs.length → w'.cell? ⟨g, off + i, none⟩ = some (.int .i64 (nth xs i)) ∧ w'.frozen? ⟨g, off + i, none⟩ = false) ∧ Below w.heap.size w w'
theorem clone4 (b off : Nat) (c : Nat) (xs : List Int) (w : World) (hr : Rd w (some ⟨b, off, none⟩) xs) (h4 : xs.length = 4) :
    Calls Try.prog 80 #[.slice (some ⟨b, off, none⟩) 4 c] w (Cloned xs w) := by
  have h := clone_any b off c xs w hr (by omega)
  rw [h4] at h
  refine h.mono ?_
  rintro e w' ⟨A, c', rfl, ho, hb⟩
  have hrow := Row.of_own ho
  obtain ⟨g, o, rfl, hc⟩ := hrow.2 (by omega)
  have hl := hrow.1 _ rfl
  exact ⟨g, o, c', by rw [h4], hl.1, hl.2, hc, hb⟩
theorem best_size {K xs : List Int} (hc : cardsB xs = true) (hp : K.Perm xs) (hf : falls K) (k : Nat) :
    (bst (ch k K) (ch k K).length = none → ∀ ys, ¬ Cand k xs ys) ∧ (∀ b, bst (ch k K) (ch k K).length = some b → Best k xs b) := by
  obtain ⟨h1, h2⟩ := cand_choices (n := k) hc hp hf
  refine bst_best k xs (fun i hi => ?_) h1 h2
  have hm : (ch k K).getD i [] ∈ ch k K := by
    rw [List.getD_eq_getElem?_getD, List.getElem?_eq_getElem hi]
    exact List.getElem_mem _
  exact (ch_mem k K _ hm).2
/-- What the loop over the sizes keeps. -/
def SizeSt (xs : List Int) (w2 : World) (bv i : Value) (wr : World) : Prop :=
  Hid (Below w2.heap.size w2 wr) ∧ ((∃ k : Nat, 1 ≤ k ∧ k ≤ 4 ∧ bv = .slice none 0 0 ∧ i = .int .i64 k ∧ Hid (∀ m, k < m → m ≤ 4 → ∀ zs, ¬ Cand m xs zs)) ∨
    (∃ (n : Nat) (b : List Int) (q : Nat), 1 ≤ n ∧ n ≤ 4 ∧ bv = .slice (some ⟨q, 0, none⟩) n n ∧ i = .int .i64 ((n : Int) - 1) ∧ Hid (b.length = n ∧ IsBad xs b ∧ w2.heap.size ≤ q ∧ Blk wr q 2 (ints b))))
def sizeM (bv i : Value) : Nat := match bv with
  | .slice none _ _ => (intOf i).toNat + 1
  | _ => 0
theorem size_step {xs K : List Int} (hc : cardsB xs = true) (h4 : xs.length = 4) (hp : K.Perm xs) (hf : falls K) {w2 wr w3 : World} {k : Nat} {v : Value} (h1 : 1 ≤ k) (hk4 : k ≤ 4) (hn : ∀ m, k < m → m ≤ 4 → ∀ zs, ¬ Cand m xs zs)
    (hb : Below w2.heap.size w2 wr) (hv : BestV (ch k K) (ch k K).length k wr.heap.size v w3) (hb3 : Below wr.heap.size wr w3) :
    SizeSt xs w2 v (.int .i64 ((k : Int) - 1)) w3 ∧ sizeM v (.int .i64 ((k : Int) - 1)) < k + 1 := by
  obtain ⟨s1, s2⟩ := best_size hc hp hf k
  rcases hv with ⟨e, rfl⟩ | ⟨b, g, e, h, rfl, hg⟩
  · have h0 := s1 e
    have hk1 : k ≠ 1 := by
      rintro rfl
      obtain ⟨x, hx⟩ : ∃ x, x ∈ xs := ⟨xs[0]'(by omega), List.getElem_mem _⟩
      exact h0 _ (cand_of hx)
    refine ⟨⟨Lib.hid (bl_trans hb hb3), .inl ⟨k - 1, by omega, by omega, rfl, ?_, Lib.hid (fun m h1 h2 zs => ?_)⟩⟩, ?_⟩
    · congr 1; omega
    · by_cases em : m = k
      · subst em; exact h0 zs
      · exact hn m (by omega) h2 zs
    · simp [sizeM, intOf]; omega
  · have hbest := s2 b e
    exact ⟨⟨Lib.hid (bl_trans hb hb3), .inr ⟨k, b, g, h1, hk4, rfl, rfl, Lib.hid ⟨hbest.1.1, ⟨k, hk4, hbest, hn⟩, Nat.le_trans hb.size h, hg⟩⟩⟩, by simp [sizeM]⟩
set_option maxRecDepth 100000 in
set_option maxHeartbeats 1500000 in
theorem badugiOf_any (b0 off : Nat) (c : Nat) (xs : List Int) (w : World) (hr : Rd w (some ⟨b0, off, none⟩) xs) (h4 : xs.length = 4) (hb : cardsB xs = true) :
    Calls Try.prog 47 #[.slice (some ⟨b0, off, none⟩) 4 c] w (BadR xs w) := by
  have HB := Lib.hid hb
  have H4 := Lib.hid h4
  have hcs := ((cards_iff xs).1 hb).1
  have KC := Lib.hid (clone4 b0 off c xs w hr h4)
  have KS : Hid (∀ (g off c' : Nat) (W : World), g < W.heap.size → (∀ i, i < xs.length → W.cell? ⟨g, off + i, none⟩ = some (.int .i64 (nth xs i)) ∧ W.frozen? ⟨g, off + i, none⟩ = false) → Calls Try.prog 77 #[.slice (some ⟨g, off, none⟩) 4 c', .func (.func 81) #[] #[]] W
      (fun e w' => e = .returned (.tuple #[]) ∧ (∃ K : List Int, K.Perm xs ∧ falls K ∧ Rd w' (some ⟨g, off, none⟩) K) ∧ W.grownBy w' (some g))) := Lib.hid (fun g off c' W h1 h2 => by
    have q := sortBad_any g off c' xs W (by omega) h1 h2 hcs
    rw [h4] at q; exact q)
  have KBB : Hid (∀ (g off c' k : Nat) (K : List Int) (W : World), 1 ≤ k → k ≤ 4 → K.Perm xs → falls K → Rd W (some ⟨g, off, none⟩) K → Calls Try.prog 82 #[.slice (some ⟨g, off, none⟩) 4 c', .int .i64 (k : Int)] W (BestB (ch k K) k W)) :=
    Lib.hid (fun g off c' k K W h1 h2 hp hf hrd => bestBad_any (some ⟨g, off, none⟩) c' K k W hrd (by rw [hp.length_eq]; exact h4) h1 h2 (fun x hx => hcs x (hp.mem_iff.1 hx)) hf)
  have hnn : ∀ W : World, (binOp .eql 24 (.slice none 0 0) (.slice none 0 0)).run Try.prog W = .ok (.bool true) W := fun W => Lib.run_eql_slice_nil (w := W) (P := Try.prog) 24 2 none 0 0 0 0 Try.underlying24
  have hns : ∀ (g n c : Nat) (W : World), (binOp .eql 24 (.slice (some ⟨g, 0, none⟩) n c) (.slice none 0 0)).run Try.prog W = .ok (.bool false) W := fun g n c W => Lib.run_eql_slice_nil (w := W) (P := Try.prog) 24 2 (some ⟨g, 0, none⟩) n c 0 0 Try.underlying24
  clear hr hb hcs h4
  obtain ⟨w0, rfl⟩ : ∃ w0 : World, w0 = w := ⟨w, rfl⟩
  go_enter Try.func47, Try.ntmps47
  go_wp2_with (first
    | (go_at_call 80; refine KC.out.mono ?_; rintro e w1 ⟨g1, o1, c1, rfl, hg1, hg2, hcell, hb1⟩; have B1 := Lib.hid hb1; have G1 := Lib.hid hg1; have KS1 := Lib.hid (KS.out g1 o1 c1 w1 hg2 hcell); clear hb1 hg1 hg2 hcell)
    | (go_at_call 77; refine KS1.out.mono ?_; rintro e w2 ⟨rfl, ⟨K, hp, hf, hrd⟩, hgr⟩; have HP := Lib.hid hp; have HF := Lib.hid hf; have HRD := Lib.hid hrd; have B2 := Lib.hid (bl_blk B1.out hgr G1.out); clear hp hf hrd hgr))
  go_loopw [4, 5] (fun bv i wr => Hid (SizeSt xs w2 bv i wr)) (fun bv i _ => sizeM bv i)
  case atStart => exact Lib.hid ⟨Lib.hid (bl_refl w2), .inl ⟨4, by omega, by omega, rfl, rfl, Lib.hid (fun m h1 h2 => by omega)⟩⟩
  case round =>
    obtain ⟨hbw, hq⟩ := hrel.out
    rcases hq with ⟨k, hk1, hk4, rfl, rfl, hno⟩ | ⟨n, b, q, hn1, hn4, rfl, rfl, hq⟩
    · have KK := Lib.hid (KBB.out g1 o1 c1 k K wr hk1 hk4 HP.out HF.out (HRD.out.below hbw.out))
      go_wp2_with (go_at_call 82; refine KK.out.mono ?_; rintro e w3 ⟨v, rfl, hv, hb3⟩; have HST := Lib.hid (size_step HB.out H4.out HP.out HF.out hk1 hk4 hno.out hbw.out hv hb3); clear hv hb3)
      have ek : wrap64 ((k : Int) - 1) = (k : Int) - 1 := by
        first | (unfold wrap64; omega) | rfl
      go_roundw
      case rel => exact Lib.hid HST.out.1
      case measure => exact HST.out.2
    · have HQ := Lib.hid hq.out
      go_wp2_with fail
      go_ret
      obtain ⟨e1, e2, e3, e4⟩ := HQ.out
      exact ⟨b, q, by rw [e1]; rfl, Nat.le_trans B2.out.size e3, e4, e2, bl_trans B2.out hbw.out⟩
end Go.Proofs.Ytajkgnheijhbpaa
