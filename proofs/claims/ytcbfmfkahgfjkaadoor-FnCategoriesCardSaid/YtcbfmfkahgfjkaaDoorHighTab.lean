/-
  Plain facts on hands of five: the program's category, kickers and value are the model's. Nothing of the program is imported.
-/
import Derived.Test.YtcbfmfkahgfjkaaDoorHighCat
namespace Go.Proofs.YtcbfmfkahgfjkaaDoor
set_option linter.unusedSimpArgs false
set_option linter.unusedVariables false

theorem tab_p41 (a e : Nat) (nae : a ≠ e) (ha : a < 13) (he : e < 13) : Tab [(a : Int), (a : Int), (a : Int), (a : Int), (e : Int)] := by
  have iae : (a : Int) ≠ (e : Int) := by omega
  have jae : (e : Int) ≠ (a : Int) := by omega
  have em : mostK [(a : Int), (a : Int), (a : Int), (a : Int), (e : Int)] = 4 := by
    unfold mostK
    show occ _ (a : Int) = _
    rw [occ_five]
    simp [iae, jae]
  have em4 : many [(a : Int), (a : Int), (a : Int), (a : Int), (e : Int)] 4 = 1 := by
    refine one_of (fun r => occ [(a : Int), (a : Int), (a : Int), (a : Int), (e : Int)] (r : Int)) 4 a ha (fun r hr => beq_of_iff ?_)
    simp only [occ_five, Int.natCast_inj]
    by_cases qa : a = r
    · subst qa; simp [nae, Ne.symm nae]
    · by_cases qe : e = r
      · subst qe; simp [nae, Ne.symm nae]
      · simp [qa, Ne.symm qa, qe, Ne.symm qe]
  exact .inl ⟨em, em4⟩
theorem tab_p32 (a d : Nat) (nad : a ≠ d) (ha : a < 13) (hd : d < 13) : Tab [(a : Int), (a : Int), (a : Int), (d : Int), (d : Int)] := by
  have iad : (a : Int) ≠ (d : Int) := by omega
  have jad : (d : Int) ≠ (a : Int) := by omega
  have em : mostK [(a : Int), (a : Int), (a : Int), (d : Int), (d : Int)] = 3 := by
    unfold mostK
    show occ _ (a : Int) = _
    rw [occ_five]
    simp [iad, jad]
  have en : nextK [(a : Int), (a : Int), (a : Int), (d : Int), (d : Int)] = 2 := by
    unfold nextK
    rw [em]
    show occ _ (d : Int) = _
    rw [occ_five]
    simp [iad, jad]
  have em4 : many [(a : Int), (a : Int), (a : Int), (d : Int), (d : Int)] 4 = 0 := by
    refine none_of (fun r => occ [(a : Int), (a : Int), (a : Int), (d : Int), (d : Int)] (r : Int)) 4 (fun r hr => beq_of_iff ?_)
    simp only [occ_five, Int.natCast_inj]
    by_cases qa : a = r
    · subst qa; simp [nad, Ne.symm nad]
    · by_cases qd : d = r
      · subst qd; simp [nad, Ne.symm nad]
      · simp [qa, Ne.symm qa, qd, Ne.symm qd]
  have em3 : many [(a : Int), (a : Int), (a : Int), (d : Int), (d : Int)] 3 = 1 := by
    refine one_of (fun r => occ [(a : Int), (a : Int), (a : Int), (d : Int), (d : Int)] (r : Int)) 3 a ha (fun r hr => beq_of_iff ?_)
    simp only [occ_five, Int.natCast_inj]
    by_cases qa : a = r
    · subst qa; simp [nad, Ne.symm nad]
    · by_cases qd : d = r
      · subst qd; simp [nad, Ne.symm nad]
      · simp [qa, Ne.symm qa, qd, Ne.symm qd]
  have em2 : many [(a : Int), (a : Int), (a : Int), (d : Int), (d : Int)] 2 = 1 := by
    refine one_of (fun r => occ [(a : Int), (a : Int), (a : Int), (d : Int), (d : Int)] (r : Int)) 2 d hd (fun r hr => beq_of_iff ?_)
    simp only [occ_five, Int.natCast_inj]
    by_cases qa : a = r
    · subst qa; simp [nad, Ne.symm nad]
    · by_cases qd : d = r
      · subst qd; simp [nad, Ne.symm nad]
      · simp [qa, Ne.symm qa, qd, Ne.symm qd]
  exact .inr (.inl ⟨em, en, em4, em3, em2⟩)
theorem tab_p311 (a d e : Nat) (nad : a ≠ d) (nae : a ≠ e) (nde : d ≠ e) (ha : a < 13) (hd : d < 13) (he : e < 13) : Tab [(a : Int), (a : Int), (a : Int), (d : Int), (e : Int)] := by
  have iad : (a : Int) ≠ (d : Int) := by omega
  have jad : (d : Int) ≠ (a : Int) := by omega
  have iae : (a : Int) ≠ (e : Int) := by omega
  have jae : (e : Int) ≠ (a : Int) := by omega
  have ide : (d : Int) ≠ (e : Int) := by omega
  have jde : (e : Int) ≠ (d : Int) := by omega
  have em : mostK [(a : Int), (a : Int), (a : Int), (d : Int), (e : Int)] = 3 := by
    unfold mostK
    show occ _ (a : Int) = _
    rw [occ_five]
    simp [iad, jad, iae, jae, ide, jde]
  have en : nextK [(a : Int), (a : Int), (a : Int), (d : Int), (e : Int)] = 1 := by
    unfold nextK
    rw [em]
    show occ _ (d : Int) = _
    rw [occ_five]
    simp [iad, jad, iae, jae, ide, jde]
  have em4 : many [(a : Int), (a : Int), (a : Int), (d : Int), (e : Int)] 4 = 0 := by
    refine none_of (fun r => occ [(a : Int), (a : Int), (a : Int), (d : Int), (e : Int)] (r : Int)) 4 (fun r hr => beq_of_iff ?_)
    simp only [occ_five, Int.natCast_inj]
    by_cases qa : a = r
    · subst qa; simp [nad, Ne.symm nad, nae, Ne.symm nae]
    · by_cases qd : d = r
      · subst qd; simp [nad, Ne.symm nad, nde, Ne.symm nde]
      · by_cases qe : e = r
        · subst qe; simp [nae, Ne.symm nae, nde, Ne.symm nde]
        · simp [qa, Ne.symm qa, qd, Ne.symm qd, qe, Ne.symm qe]
  have em3 : many [(a : Int), (a : Int), (a : Int), (d : Int), (e : Int)] 3 = 1 := by
    refine one_of (fun r => occ [(a : Int), (a : Int), (a : Int), (d : Int), (e : Int)] (r : Int)) 3 a ha (fun r hr => beq_of_iff ?_)
    simp only [occ_five, Int.natCast_inj]
    by_cases qa : a = r
    · subst qa; simp [nad, Ne.symm nad, nae, Ne.symm nae]
    · by_cases qd : d = r
      · subst qd; simp [nad, Ne.symm nad, nde, Ne.symm nde]
      · by_cases qe : e = r
        · subst qe; simp [nae, Ne.symm nae, nde, Ne.symm nde]
        · simp [qa, Ne.symm qa, qd, Ne.symm qd, qe, Ne.symm qe]
  have em2 : many [(a : Int), (a : Int), (a : Int), (d : Int), (e : Int)] 2 = 0 := by
    refine none_of (fun r => occ [(a : Int), (a : Int), (a : Int), (d : Int), (e : Int)] (r : Int)) 2 (fun r hr => beq_of_iff ?_)
    simp only [occ_five, Int.natCast_inj]
    by_cases qa : a = r
    · subst qa; simp [nad, Ne.symm nad, nae, Ne.symm nae]
    · by_cases qd : d = r
      · subst qd; simp [nad, Ne.symm nad, nde, Ne.symm nde]
      · by_cases qe : e = r
        · subst qe; simp [nae, Ne.symm nae, nde, Ne.symm nde]
        · simp [qa, Ne.symm qa, qd, Ne.symm qd, qe, Ne.symm qe]
  exact .inr (.inr (.inl ⟨em, en, em4, em3, em2⟩))
theorem tab_p221 (a c e : Nat) (nac : a ≠ c) (nae : a ≠ e) (nce : c ≠ e) (ha : a < 13) (hc : c < 13) (he : e < 13) : Tab [(a : Int), (a : Int), (c : Int), (c : Int), (e : Int)] := by
  have iac : (a : Int) ≠ (c : Int) := by omega
  have jac : (c : Int) ≠ (a : Int) := by omega
  have iae : (a : Int) ≠ (e : Int) := by omega
  have jae : (e : Int) ≠ (a : Int) := by omega
  have ice : (c : Int) ≠ (e : Int) := by omega
  have jce : (e : Int) ≠ (c : Int) := by omega
  have em : mostK [(a : Int), (a : Int), (c : Int), (c : Int), (e : Int)] = 2 := by
    unfold mostK
    show occ _ (a : Int) = _
    rw [occ_five]
    simp [iac, jac, iae, jae, ice, jce]
  have en : nextK [(a : Int), (a : Int), (c : Int), (c : Int), (e : Int)] = 2 := by
    unfold nextK
    rw [em]
    show occ _ (c : Int) = _
    rw [occ_five]
    simp [iac, jac, iae, jae, ice, jce]
  have em4 : many [(a : Int), (a : Int), (c : Int), (c : Int), (e : Int)] 4 = 0 := by
    refine none_of (fun r => occ [(a : Int), (a : Int), (c : Int), (c : Int), (e : Int)] (r : Int)) 4 (fun r hr => beq_of_iff ?_)
    simp only [occ_five, Int.natCast_inj]
    by_cases qa : a = r
    · subst qa; simp [nac, Ne.symm nac, nae, Ne.symm nae]
    · by_cases qc : c = r
      · subst qc; simp [nac, Ne.symm nac, nce, Ne.symm nce]
      · by_cases qe : e = r
        · subst qe; simp [nae, Ne.symm nae, nce, Ne.symm nce]
        · simp [qa, Ne.symm qa, qc, Ne.symm qc, qe, Ne.symm qe]
  have em3 : many [(a : Int), (a : Int), (c : Int), (c : Int), (e : Int)] 3 = 0 := by
    refine none_of (fun r => occ [(a : Int), (a : Int), (c : Int), (c : Int), (e : Int)] (r : Int)) 3 (fun r hr => beq_of_iff ?_)
    simp only [occ_five, Int.natCast_inj]
    by_cases qa : a = r
    · subst qa; simp [nac, Ne.symm nac, nae, Ne.symm nae]
    · by_cases qc : c = r
      · subst qc; simp [nac, Ne.symm nac, nce, Ne.symm nce]
      · by_cases qe : e = r
        · subst qe; simp [nae, Ne.symm nae, nce, Ne.symm nce]
        · simp [qa, Ne.symm qa, qc, Ne.symm qc, qe, Ne.symm qe]
  have em2 : many [(a : Int), (a : Int), (c : Int), (c : Int), (e : Int)] 2 = 2 := by
    refine two_of (fun r => occ [(a : Int), (a : Int), (c : Int), (c : Int), (e : Int)] (r : Int)) 2 a c ha hc nac (fun r hr => beq_of_iff ?_)
    simp only [occ_five, Int.natCast_inj]
    by_cases qa : a = r
    · subst qa; simp [nac, Ne.symm nac, nae, Ne.symm nae]
    · by_cases qc : c = r
      · subst qc; simp [nac, Ne.symm nac, nce, Ne.symm nce]
      · by_cases qe : e = r
        · subst qe; simp [nae, Ne.symm nae, nce, Ne.symm nce]
        · simp [qa, Ne.symm qa, qc, Ne.symm qc, qe, Ne.symm qe]
  exact .inr (.inr (.inr (.inl ⟨em, en, em4, em3, em2⟩)))
theorem tab_p2111 (a c d e : Nat) (nac : a ≠ c) (nad : a ≠ d) (nae : a ≠ e) (ncd : c ≠ d) (nce : c ≠ e) (nde : d ≠ e) (ha : a < 13) (hc : c < 13) (hd : d < 13) (he : e < 13) : Tab [(a : Int), (a : Int), (c : Int), (d : Int), (e : Int)] := by
  have iac : (a : Int) ≠ (c : Int) := by omega
  have jac : (c : Int) ≠ (a : Int) := by omega
  have iad : (a : Int) ≠ (d : Int) := by omega
  have jad : (d : Int) ≠ (a : Int) := by omega
  have iae : (a : Int) ≠ (e : Int) := by omega
  have jae : (e : Int) ≠ (a : Int) := by omega
  have icd : (c : Int) ≠ (d : Int) := by omega
  have jcd : (d : Int) ≠ (c : Int) := by omega
  have ice : (c : Int) ≠ (e : Int) := by omega
  have jce : (e : Int) ≠ (c : Int) := by omega
  have ide : (d : Int) ≠ (e : Int) := by omega
  have jde : (e : Int) ≠ (d : Int) := by omega
  have em : mostK [(a : Int), (a : Int), (c : Int), (d : Int), (e : Int)] = 2 := by
    unfold mostK
    show occ _ (a : Int) = _
    rw [occ_five]
    simp [iac, jac, iad, jad, iae, jae, icd, jcd, ice, jce, ide, jde]
  have en : nextK [(a : Int), (a : Int), (c : Int), (d : Int), (e : Int)] = 1 := by
    unfold nextK
    rw [em]
    show occ _ (c : Int) = _
    rw [occ_five]
    simp [iac, jac, iad, jad, iae, jae, icd, jcd, ice, jce, ide, jde]
  have em4 : many [(a : Int), (a : Int), (c : Int), (d : Int), (e : Int)] 4 = 0 := by
    refine none_of (fun r => occ [(a : Int), (a : Int), (c : Int), (d : Int), (e : Int)] (r : Int)) 4 (fun r hr => beq_of_iff ?_)
    simp only [occ_five, Int.natCast_inj]
    by_cases qa : a = r
    · subst qa; simp [nac, Ne.symm nac, nad, Ne.symm nad, nae, Ne.symm nae]
    · by_cases qc : c = r
      · subst qc; simp [nac, Ne.symm nac, ncd, Ne.symm ncd, nce, Ne.symm nce]
      · by_cases qd : d = r
        · subst qd; simp [nad, Ne.symm nad, ncd, Ne.symm ncd, nde, Ne.symm nde]
        · by_cases qe : e = r
          · subst qe; simp [nae, Ne.symm nae, nce, Ne.symm nce, nde, Ne.symm nde]
          · simp [qa, Ne.symm qa, qc, Ne.symm qc, qd, Ne.symm qd, qe, Ne.symm qe]
  have em3 : many [(a : Int), (a : Int), (c : Int), (d : Int), (e : Int)] 3 = 0 := by
    refine none_of (fun r => occ [(a : Int), (a : Int), (c : Int), (d : Int), (e : Int)] (r : Int)) 3 (fun r hr => beq_of_iff ?_)
    simp only [occ_five, Int.natCast_inj]
    by_cases qa : a = r
    · subst qa; simp [nac, Ne.symm nac, nad, Ne.symm nad, nae, Ne.symm nae]
    · by_cases qc : c = r
      · subst qc; simp [nac, Ne.symm nac, ncd, Ne.symm ncd, nce, Ne.symm nce]
      · by_cases qd : d = r
        · subst qd; simp [nad, Ne.symm nad, ncd, Ne.symm ncd, nde, Ne.symm nde]
        · by_cases qe : e = r
          · subst qe; simp [nae, Ne.symm nae, nce, Ne.symm nce, nde, Ne.symm nde]
          · simp [qa, Ne.symm qa, qc, Ne.symm qc, qd, Ne.symm qd, qe, Ne.symm qe]
  have em2 : many [(a : Int), (a : Int), (c : Int), (d : Int), (e : Int)] 2 = 1 := by
    refine one_of (fun r => occ [(a : Int), (a : Int), (c : Int), (d : Int), (e : Int)] (r : Int)) 2 a ha (fun r hr => beq_of_iff ?_)
    simp only [occ_five, Int.natCast_inj]
    by_cases qa : a = r
    · subst qa; simp [nac, Ne.symm nac, nad, Ne.symm nad, nae, Ne.symm nae]
    · by_cases qc : c = r
      · subst qc; simp [nac, Ne.symm nac, ncd, Ne.symm ncd, nce, Ne.symm nce]
      · by_cases qd : d = r
        · subst qd; simp [nad, Ne.symm nad, ncd, Ne.symm ncd, nde, Ne.symm nde]
        · by_cases qe : e = r
          · subst qe; simp [nae, Ne.symm nae, nce, Ne.symm nce, nde, Ne.symm nde]
          · simp [qa, Ne.symm qa, qc, Ne.symm qc, qd, Ne.symm qd, qe, Ne.symm qe]
  exact .inr (.inr (.inr (.inr (.inl ⟨em, en, em4, em3, em2⟩))))
theorem tab_p1 (a b c d e : Nat) (nab : a ≠ b) (nac : a ≠ c) (nad : a ≠ d) (nae : a ≠ e) (nbc : b ≠ c) (nbd : b ≠ d) (nbe : b ≠ e) (ncd : c ≠ d) (nce : c ≠ e) (nde : d ≠ e) (ha : a < 13) (hb : b < 13) (hc : c < 13) (hd : d < 13) (he : e < 13) : Tab [(a : Int), (b : Int), (c : Int), (d : Int), (e : Int)] := by
  have iab : (a : Int) ≠ (b : Int) := by omega
  have jab : (b : Int) ≠ (a : Int) := by omega
  have iac : (a : Int) ≠ (c : Int) := by omega
  have jac : (c : Int) ≠ (a : Int) := by omega
  have iad : (a : Int) ≠ (d : Int) := by omega
  have jad : (d : Int) ≠ (a : Int) := by omega
  have iae : (a : Int) ≠ (e : Int) := by omega
  have jae : (e : Int) ≠ (a : Int) := by omega
  have ibc : (b : Int) ≠ (c : Int) := by omega
  have jbc : (c : Int) ≠ (b : Int) := by omega
  have ibd : (b : Int) ≠ (d : Int) := by omega
  have jbd : (d : Int) ≠ (b : Int) := by omega
  have ibe : (b : Int) ≠ (e : Int) := by omega
  have jbe : (e : Int) ≠ (b : Int) := by omega
  have icd : (c : Int) ≠ (d : Int) := by omega
  have jcd : (d : Int) ≠ (c : Int) := by omega
  have ice : (c : Int) ≠ (e : Int) := by omega
  have jce : (e : Int) ≠ (c : Int) := by omega
  have ide : (d : Int) ≠ (e : Int) := by omega
  have jde : (e : Int) ≠ (d : Int) := by omega
  have em : mostK [(a : Int), (b : Int), (c : Int), (d : Int), (e : Int)] = 1 := by
    unfold mostK
    show occ _ (a : Int) = _
    rw [occ_five]
    simp [iab, jab, iac, jac, iad, jad, iae, jae, ibc, jbc, ibd, jbd, ibe, jbe, icd, jcd, ice, jce, ide, jde]
  have em4 : many [(a : Int), (b : Int), (c : Int), (d : Int), (e : Int)] 4 = 0 := by
    refine none_of (fun r => occ [(a : Int), (b : Int), (c : Int), (d : Int), (e : Int)] (r : Int)) 4 (fun r hr => beq_of_iff ?_)
    simp only [occ_five, Int.natCast_inj]
    by_cases qa : a = r
    · subst qa; simp [nab, Ne.symm nab, nac, Ne.symm nac, nad, Ne.symm nad, nae, Ne.symm nae]
    · by_cases qb : b = r
      · subst qb; simp [nab, Ne.symm nab, nbc, Ne.symm nbc, nbd, Ne.symm nbd, nbe, Ne.symm nbe]
      · by_cases qc : c = r
        · subst qc; simp [nac, Ne.symm nac, nbc, Ne.symm nbc, ncd, Ne.symm ncd, nce, Ne.symm nce]
        · by_cases qd : d = r
          · subst qd; simp [nad, Ne.symm nad, nbd, Ne.symm nbd, ncd, Ne.symm ncd, nde, Ne.symm nde]
          · by_cases qe : e = r
            · subst qe; simp [nae, Ne.symm nae, nbe, Ne.symm nbe, nce, Ne.symm nce, nde, Ne.symm nde]
            · simp [qa, Ne.symm qa, qb, Ne.symm qb, qc, Ne.symm qc, qd, Ne.symm qd, qe, Ne.symm qe]
  have em3 : many [(a : Int), (b : Int), (c : Int), (d : Int), (e : Int)] 3 = 0 := by
    refine none_of (fun r => occ [(a : Int), (b : Int), (c : Int), (d : Int), (e : Int)] (r : Int)) 3 (fun r hr => beq_of_iff ?_)
    simp only [occ_five, Int.natCast_inj]
    by_cases qa : a = r
    · subst qa; simp [nab, Ne.symm nab, nac, Ne.symm nac, nad, Ne.symm nad, nae, Ne.symm nae]
    · by_cases qb : b = r
      · subst qb; simp [nab, Ne.symm nab, nbc, Ne.symm nbc, nbd, Ne.symm nbd, nbe, Ne.symm nbe]
      · by_cases qc : c = r
        · subst qc; simp [nac, Ne.symm nac, nbc, Ne.symm nbc, ncd, Ne.symm ncd, nce, Ne.symm nce]
        · by_cases qd : d = r
          · subst qd; simp [nad, Ne.symm nad, nbd, Ne.symm nbd, ncd, Ne.symm ncd, nde, Ne.symm nde]
          · by_cases qe : e = r
            · subst qe; simp [nae, Ne.symm nae, nbe, Ne.symm nbe, nce, Ne.symm nce, nde, Ne.symm nde]
            · simp [qa, Ne.symm qa, qb, Ne.symm qb, qc, Ne.symm qc, qd, Ne.symm qd, qe, Ne.symm qe]
  have em2 : many [(a : Int), (b : Int), (c : Int), (d : Int), (e : Int)] 2 = 0 := by
    refine none_of (fun r => occ [(a : Int), (b : Int), (c : Int), (d : Int), (e : Int)] (r : Int)) 2 (fun r hr => beq_of_iff ?_)
    simp only [occ_five, Int.natCast_inj]
    by_cases qa : a = r
    · subst qa; simp [nab, Ne.symm nab, nac, Ne.symm nac, nad, Ne.symm nad, nae, Ne.symm nae]
    · by_cases qb : b = r
      · subst qb; simp [nab, Ne.symm nab, nbc, Ne.symm nbc, nbd, Ne.symm nbd, nbe, Ne.symm nbe]
      · by_cases qc : c = r
        · subst qc; simp [nac, Ne.symm nac, nbc, Ne.symm nbc, ncd, Ne.symm ncd, nce, Ne.symm nce]
        · by_cases qd : d = r
          · subst qd; simp [nad, Ne.symm nad, nbd, Ne.symm nbd, ncd, Ne.symm ncd, nde, Ne.symm nde]
          · by_cases qe : e = r
            · subst qe; simp [nae, Ne.symm nae, nbe, Ne.symm nbe, nce, Ne.symm nce, nde, Ne.symm nde]
            · simp [qa, Ne.symm qa, qb, Ne.symm qb, qc, Ne.symm qc, qd, Ne.symm qd, qe, Ne.symm qe]
  exact .inr (.inr (.inr (.inr (.inr (⟨em, em4, em3, em2⟩)))))

theorem list_five {α : Type} (L : List α) (h : L.length = 5) : ∃ a b c d e, L = [a, b, c, d, e] := by
  match L, h with
  | [a, b, c, d, e], _ => exact ⟨a, b, c, d, e, rfl⟩
theorem shape_kk (rs : List Int) (h : ranksOk rs) (h4 : ∀ r, occ rs r ≤ 4) (hl : rs.length = 5) : ∃ a b c d e, kk rs = [a, b, c, d, e] ∧ Shape a b c d e ∧ [a, b, c, d, e].Perm rs := by
  have hp := kk_perm rs h h4
  obtain ⟨a, b, c, d, e, q⟩ := list_five (kk rs) (by rw [hp.length_eq, hl])
  refine ⟨a, b, c, d, e, q, ?_, q ▸ hp⟩
  have hs := kk_sorted rs
  rw [q] at hs hp
  have e2 : leK rs = leK [a, b, c, d, e] := by funext x y; unfold leK; rw [occ_perm hp, occ_perm hp]
  rw [e2] at hs
  exact shape_of a b c d e hs
theorem lt_ne {x y : Int} (h : y < x) : x.toNat ≠ y.toNat ∨ x < 0 ∨ y < 0 := by omega
theorem nat_list (a b c d e : Int) (ha : 0 ≤ a) (hb : 0 ≤ b) (hc : 0 ≤ c) (hd : 0 ≤ d) (he : 0 ≤ e) : [a, b, c, d, e] = [(a.toNat : Int), (b.toNat : Int), (c.toNat : Int), (d.toNat : Int), (e.toNat : Int)] := by
  rw [Int.toNat_of_nonneg ha, Int.toNat_of_nonneg hb, Int.toNat_of_nonneg hc, Int.toNat_of_nonneg hd, Int.toNat_of_nonneg he]
theorem lowK_twice (a c d e : Int) : lowK [a, a, c, d, e] = [a, a, c, d, e] := by
  unfold lowK
  rw [if_neg]
  intro h
  injection h with q0 h; injection h with q1 h
  omega
theorem strI_twice (a c d e : Int) : strI [a, a, c, d, e] (mostK [a, a, c, d, e]) = false := by
  have em : 2 ≤ mostK [a, a, c, d, e] := by
    unfold mostK
    show 2 ≤ occ _ a
    rw [occ_five, if_pos rfl]
    omega
  have e1 : (mostK [a, a, c, d, e] == 1) = false := by rw [beq_eq_false_iff_ne]; omega
  have e2 : ([a, a, c, d, e] == [3, 2, 1, 0, 12]) = false := by
    rw [beq_eq_false_iff_ne]
    intro h
    injection h with q0 h; injection h with q1 h
    omega
  unfold strI
  rw [e1, e2]; rfl
/-- Both tables of numbers, and the straights. -/
theorem five_facts (rs : List Int) (h : ranksOk rs) (h4 : ∀ r, occ rs r ≤ 4) (hl : rs.length = 5) :
    Tab (kk rs) ∧ lowK (kk rs) = kickS rs ∧ strI (lowK (kk rs)) (mostK (kk rs)) = decide (0 ≤ strT rs) := by
  obtain ⟨a, b, c, d, e, q, hs, hp⟩ := shape_kk rs h h4 hl
  have hb : ∀ x ∈ [a, b, c, d, e], 0 ≤ x ∧ x < 13 := fun x hx => h x (hp.subset hx)
  have ba := hb a (by simp)
  have bb := hb b (by simp)
  have bc := hb c (by simp)
  have bd := hb d (by simp)
  have be := hb e (by simp)
  have h4' : ∀ r, occ [a, b, c, d, e] r ≤ 4 := fun r => by rw [occ_perm hp]; exact h4 r
  have hT : strT rs = strFrom [a, b, c, d, e] 9 := (strFrom_perm hp 9).symm
  unfold kickS
  rw [hT, q]
  clear hb hp q hl h4 hT h
  have key : Tab [a, b, c, d, e] := by
    cases hs with
    | p5 =>
      have := h4' a
      rw [occ_five] at this
      simp at this
    | p41 _ _ =>
      rw [nat_list a a a a e ba.1 ba.1 ba.1 ba.1 be.1]
      exact tab_p41 a.toNat e.toNat (by omega) (by omega) (by omega)
    | p32 _ _ =>
      rw [nat_list a a a d d ba.1 ba.1 ba.1 bd.1 bd.1]
      exact tab_p32 a.toNat d.toNat (by omega) (by omega) (by omega)
    | p311 _ _ _ =>
      rw [nat_list a a a d e ba.1 ba.1 ba.1 bd.1 be.1]
      exact tab_p311 a.toNat d.toNat e.toNat (by omega) (by omega) (by omega) (by omega) (by omega) (by omega)
    | p221 _ _ _ =>
      rw [nat_list a a c c e ba.1 ba.1 bc.1 bc.1 be.1]
      exact tab_p221 a.toNat c.toNat e.toNat (by omega) (by omega) (by omega) (by omega) (by omega) (by omega)
    | p2111 _ _ _ _ =>
      rw [nat_list a a c d e ba.1 ba.1 bc.1 bd.1 be.1]
      exact tab_p2111 a.toNat c.toNat d.toNat e.toNat (by omega) (by omega) (by omega) (by omega) (by omega) (by omega) (by omega) (by omega) (by omega) (by omega)
    | p1 _ _ _ _ _ =>
      rw [nat_list a b c d e ba.1 bb.1 bc.1 bd.1 be.1]
      exact tab_p1 a.toNat b.toNat c.toNat d.toNat e.toNat (by omega) (by omega) (by omega) (by omega) (by omega) (by omega) (by omega) (by omega) (by omega) (by omega) (by omega) (by omega) (by omega) (by omega) (by omega)
  refine ⟨key, ?_⟩
  by_cases hab : a = b
  · subst hab
    rw [str_twice, lowK_twice, strI_twice, if_neg (by omega)]
    exact ⟨rfl, rfl⟩
  · cases hs with
    | p1 _ _ _ _ n1 n2 n3 n4 =>
      have em : mostK [a, b, c, d, e] = 1 := occ_falling n1 n2 n3 n4 a (by simp)
      rw [str_falling n1 n2 n3 n4 ba.2, em]
      by_cases hw : [a, b, c, d, e] = [12, 3, 2, 1, 0]
      · have hw' := hw
        injection hw' with q0 hw'; injection hw' with q1 hw'; injection hw' with q2 hw'; injection hw' with q3 hw'; injection hw' with q4 hw'
        subst q0 q1 q2 q3 q4
        decide
      · have hl : lowK [a, b, c, d, e] = [a, b, c, d, e] := by unfold lowK; rw [if_neg hw]
        rw [hl]
        have hn : ¬ [a, b, c, d, e] = [3, 2, 1, 0, 12] := by
          intro hw'
          injection hw' with q0 hw'; injection hw' with q1 hw'; injection hw' with q2 hw'; injection hw' with q3 hw'; injection hw' with q4 hw'
          omega
        by_cases hr : a - e = 4
        · rw [if_pos (⟨hr, by omega, by omega⟩ : a - e = 4 ∧ 4 ≤ a ∧ a < ((9 : Nat) : Int) + 4), if_neg (by omega)]
          refine ⟨rfl, ?_⟩
          have : strI [a, b, c, d, e] 1 = true := by unfold strI; simp [hr]
          rw [this]; simp; omega
        · rw [if_neg (fun q : a - e = 4 ∧ 4 ≤ a ∧ a < ((9 : Nat) : Int) + 4 => hr q.1), if_neg hw, if_neg (by omega)]
          refine ⟨rfl, ?_⟩
          have : strI [a, b, c, d, e] 1 = false := by
            unfold strI
            have e1 : (([a, b, c, d, e].getD 0 0 - [a, b, c, d, e].getD 4 0 == 4) = false) := by simpa using hr
            have e2 : ([a, b, c, d, e] == [3, 2, 1, 0, 12]) = false := by rw [beq_eq_false_iff_ne]; exact hn
            rw [e1, e2]; rfl
          rw [this]; rfl
    | _ => exact absurd rfl hab

theorem cat_same (rs : List Int) (one : Bool) (h : ranksOk rs) (h4 : ∀ r, occ rs r ≤ 4) (hl : rs.length = 5) :
    catI (lowK (kk rs)) (mostK (kk rs)) (nextK (kk rs)) one = catS rs one := by
  obtain ⟨t, _, e2⟩ := five_facts rs h h4 hl
  have hp := kk_perm rs h h4
  unfold catI catS
  rw [e2]
  unfold Tab at t
  rw [many_perm hp, many_perm hp, many_perm hp] at t
  generalize decide (0 ≤ strT rs) = s
  rcases t with ⟨t1, t2⟩ | ⟨t1, t2, t3, t4, t5⟩ | ⟨t1, t2, t3, t4, t5⟩ | ⟨t1, t2, t3, t4, t5⟩ | ⟨t1, t2, t3, t4, t5⟩ | ⟨t1, t2, t3, t4⟩
  · simp [t1, t2]
  · simp [t1, t2, t3, t4, t5]
  · simp [t1, t2, t3, t4, t5]
  · simp [t1, t2, t3, t4, t5]
  · simp [t1, t2, t3, t4, t5]
  · simp [t1, t2, t3, t4]
end Go.Proofs.YtcbfmfkahgfjkaaDoor
