/-
  The law FnExactAddRatios returns true for every two ratios, and leaves them as they were: AddRatios answers as its model.
  No condition.
-/
import Derived.Test.YtohhjcnkbifdbaaTwo
namespace Go.Proofs.Ytohhjcnkbifdbaa
open Go.ChangeShapes Go.WideShapes Go.ChangeAt Go.RowKit Go.Joins
set_option linter.unusedVariables false

set_option maxHeartbeats 2000000 in
theorem walkAddRatios (n d m e : Int) (w : World) (T : Int × Int × Int) (K1 : Hid (∀ W, Calls Try.prog 16 #[.agg #[.int .i64 n, .int .i64 d], .agg #[.int .i64 m, .int .i64 e]] W (Fresh (tripV T) W))) (K2 : Hid (∀ W, Calls Try.prog 15 #[.agg #[.int .i64 n, .int .i64 d], .agg #[.int .i64 m, .int .i64 e]] W (Fresh (tripV T) W))) :
    Calls Try.prog 8 #[.agg #[.int .i64 n, .int .i64 d], .agg #[.int .i64 m, .int .i64 e]] w (Fresh (.bool true) w) := by
  go_enter Try.func8, Try.ntmps8
  go_upto_region 1 with fail
  go_cut [5, 6] (fun s5 s6 wx => ∃ g : Nat, s5 = .pointer (some ⟨g, 0, none⟩) ∧ s6 = .int .i64 T.2.2 ∧ wx.cell? ⟨g, 0, none⟩ = some (.int .i64 T.1) ∧ wx.cell? ⟨g, 1, none⟩ = some (.int .i64 T.2.1) ∧ g < wx.heap.size ∧
    wx.cell? ⟨w.heap.size, 0, none⟩ = some (.int .i64 n) ∧ wx.cell? ⟨w.heap.size, 1, none⟩ = some (.int .i64 d) ∧ wx.cell? ⟨w.heap.size + 1, 0, none⟩ = some (.int .i64 m) ∧ wx.cell? ⟨w.heap.size + 1, 1, none⟩ = some (.int .i64 e) ∧ Below w.heap.size w wx ∧ w.heap.size + 1 < wx.heap.size)
  case first =>
    go_region_held3 (fun w' => w'.cell? ⟨w.heap.size, 0, none⟩ = some (.int .i64 n) ∧ w'.cell? ⟨w.heap.size, 1, none⟩ = some (.int .i64 d) ∧ w'.cell? ⟨w.heap.size + 1, 0, none⟩ = some (.int .i64 m) ∧ w'.cell? ⟨w.heap.size + 1, 1, none⟩ = some (.int .i64 e) ∧ Below w.heap.size w w' ∧ w.heap.size + 1 < w'.heap.size)
      (first | exact two_drew (two_start _ _ _ _ _ _) | exact two_drew hS | exact two_call (by assumption) hb | exact two_alloc _ (by assumption) | exact two_realloc _ (by assumption) (by assumption) | exact two_set2 (Nat.lt_succ_self _) (by assumption) | exact two_set2 (by assumption) (by assumption))
      (first
        | (go_at_call 30; first | ((with_reducible refine (toRatio_new n d _ _).mono ?_); rintro e' wa ⟨rfl, hb, zwa⟩; obtain ⟨hcwa, hfwa⟩ := bcell hb; simp at zwa) | ((with_reducible refine (toRatio_any n d _).mono ?_); rintro e' wa ⟨rfl, hb⟩; obtain ⟨hcwa, hfwa⟩ := bcell hb))
        | (go_at_call 30; first | ((with_reducible refine (toRatio_late m e _ _).mono ?_); rintro e' wb ⟨rfl, hb, zwb⟩; obtain ⟨hcwb, hfwb⟩ := bcell hb; have zwa2 := Nat.lt_trans zwa zwb) | ((with_reducible refine (toRatio_any m e _).mono ?_); rintro e' wb ⟨rfl, hb⟩; obtain ⟨hcwb, hfwb⟩ := bcell hb; have zwa2 := sz_old zwa hb))
        | (go_at_call 16; first | ((with_reducible refine (call_late (K1.out _)).mono ?_); rintro e' wd ⟨rfl, hb, zwd⟩; obtain ⟨hcwd, hfwd⟩ := bcell hb; have zwa3 := Nat.lt_trans zwa2 zwd) | ((with_reducible refine (K1.out _).mono ?_); rintro e' wd ⟨rfl, hb⟩; obtain ⟨hcwd, hfwd⟩ := bcell hb; have zwa3 := sz_old zwa2 hb; (try have zwb2 := sz_old zwb hb))))
    all_goals
      go_wp2_with fail
      go_meet
      refine ⟨_, rfl, rfl, ?_, ?_, ?_, by assumption⟩
      all_goals go_simp
      all_goals go_goals
  case rest =>
    obtain ⟨g, rfl, rfl, hg0, hg1, hgz, hS0⟩ := hcut
    have q := hS0.2.2.2.2.2
    have gq := hgz
    have hS := And.intro hg0 (And.intro hg1 (And.intro hgz hS0))
    clear hg0 hg1 hgz hS0
    go_wp2_with fail
    go_region_held3 (fun w' => w'.cell? ⟨g, 0, none⟩ = some (.int .i64 T.1) ∧ w'.cell? ⟨g, 1, none⟩ = some (.int .i64 T.2.1) ∧ g < w'.heap.size ∧ w'.cell? ⟨w.heap.size, 0, none⟩ = some (.int .i64 n) ∧ w'.cell? ⟨w.heap.size, 1, none⟩ = some (.int .i64 d) ∧ w'.cell? ⟨w.heap.size + 1, 0, none⟩ = some (.int .i64 m) ∧ w'.cell? ⟨w.heap.size + 1, 1, none⟩ = some (.int .i64 e) ∧ Below w.heap.size w w' ∧ w.heap.size + 1 < w'.heap.size)
      (first | exact twog_drew hS | exact twog_call (by assumption) hb | exact twog_alloc _ (by assumption) | exact twog_realloc _ (by assumption) (by assumption) (by assumption) | exact twog_set2 (by assumption) (by assumption) (by assumption))
      (first
        | (go_at_call 30; first | ((with_reducible refine (toRatio_new n d _ _).mono ?_); rintro e' va ⟨rfl, hb, zva⟩; obtain ⟨hcva, hfva⟩ := bcell hb; have qa := Nat.lt_trans q zva; have ga := Nat.lt_trans gq zva) | ((with_reducible refine (toRatio_any n d _).mono ?_); rintro e' va ⟨rfl, hb⟩; obtain ⟨hcva, hfva⟩ := bcell hb; have qa := sz_gen hb q; have ga := sz_gen hb gq))
        | (go_at_call 30; first | ((with_reducible refine (toRatio_late m e _ _).mono ?_); rintro e' vb ⟨rfl, hb, zvb⟩; obtain ⟨hcvb, hfvb⟩ := bcell hb; have qb := Nat.lt_trans qa zvb; have gb := Nat.lt_trans ga zvb) | ((with_reducible refine (toRatio_any m e _).mono ?_); rintro e' vb ⟨rfl, hb⟩; obtain ⟨hcvb, hfvb⟩ := bcell hb; have qb := sz_gen hb qa; have gb := sz_gen hb ga; (try have zva2 := sz_gen hb zva)))
        | (go_at_call 15; first | ((with_reducible refine (call_late (K2.out _)).mono ?_); rintro e' vd ⟨rfl, hb, zvd⟩; obtain ⟨hcvd, hfvd⟩ := bcell hb; have qd := Nat.lt_trans qb zvd; have gd := Nat.lt_trans gb zvd) | ((with_reducible refine (K2.out _).mono ?_); rintro e' vd ⟨rfl, hb⟩; obtain ⟨hcvd, hfvd⟩ := bcell hb; have qd := sz_gen hb qb; have gd := sz_gen hb gb; (try have zva3 := sz_gen hb zva2); (try have zvb2 := sz_gen hb zvb))))
    all_goals
      go_wp2_with (go_at_call 35; ((with_reducible refine (eqRatio_same _ _ _).mono ?_); rintro e' vz ⟨rfl, hbz⟩))
      go_ret
      exact ⟨rfl, twog_fin (by assumption) hbz⟩


set_option maxRecDepth 100000 in
theorem fnExactAddRatios_lifted (os : Os) (started : os.Started) (H : Type) (enc : TypeId × Value → H) :
    ReturnsInHanded {} Try.checked os 8 .any (Rows.fnExactAddRatiosSpec.pre6 enc Try.prog Try.f8 Rows.fnExactAddRatiosRow.domain false) (Rows.fnExactAddRatiosSpec.post enc Try.prog Try.f8 false true false false) := by
  refine law_lifted started (by kernel_rfl) Try.func8 (by kernel_rfl) rfl (fun ds h => ?_) ?_
    (ChangeSpec.witness6 (enc := enc) (C := Try.checked) false ⟨#[], #[.agg #[.int .i64 0, .int .i64 0], .agg #[.int .i64 0, .int .i64 0]], []⟩ 8 (by kernel_rfl) (by kernel_rfl) (by kernel_rfl) (by kernel_rfl)) ?_
  · match ds, h with
    | [d0, d1], _ => rfl
  · rw [Try.params8]
    intro t ht
    obtain rfl : t = 33 := by simpa using ht
    exact ⟨by kernel_rfl, of_decide_eq_true (by kernel_rfl)⟩
  · intro W base args ds ps hval hA
    rw [Try.params8] at hA hval
    obtain ⟨v0, v1, d0, d1, p0, p1, rfl, rfl, rfl, h0, h1⟩ := trodAll_two hA
    obtain ⟨n, d, rfl, wn, wd⟩ := open_ratio (hval 0 33 v0 rfl rfl) h0
    obtain ⟨m, e, rfl, we, wf⟩ := open_ratio (hval 1 33 v1 rfl rfl) h1
    exact walkAddRatios n d m e W (opR (rat (n * e + m * d) (d * e)) n d m e) (Lib.hid fun W => specAdd_any n d m e W) (Lib.hid fun W => implAdd_any n d m e W)

/-- AddRatios answers as its model, for every two ratios. -/
theorem fnExactAddRatios_holds : Rows.FnExactAddRatiosSaid :=
  OpenClaim.holds_of_wide 8 Try.f8 rfl rfl rfl rfl rfl rfl rfl ⟨rfl, rfl, rfl, rfl, rfl⟩ rfl rfl rfl rfl rfl (by kernel_rfl) Try.func8 (by kernel_rfl)
    (of_decide_eq_true (by kernel_rfl)) (by unfold Func.isWrapper; first | (rw [if_pos (by decide +kernel)]; kernel_rfl) | (rw [if_neg (by decide +kernel)]; exact ⟨rfl, rfl⟩))
    (fun os started H enc _ => fnExactAddRatios_lifted os started H enc)

end Go.Proofs.Ytohhjcnkbifdbaa
