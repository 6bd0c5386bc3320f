/-
  MakeRatio and the four operations on ratios: the walks of the model and of the program.
-/
import Derived.Test.YtjmfecjgomkofabDoorRatioOf
namespace Go.Proofs.YtjmfecjgomkofabDoor
open Go.RowKit
set_option linter.unusedVariables false

/-- A ratio and a code, out of a triple. -/
abbrev tripV (t : Int × Int × Int) : Value := .tuple #[.agg #[.int .i64 t.1, .int .i64 t.2.1], .int .i64 t.2.2]
theorem trip_eq {t : Int × Int × Int} {a b c : Int} (h : t = (a, b, c)) : resV a b c = tripV t := by rw [h]

theorem specRat_any (n d : Int) (w : World) (hn : -4000000000000000000 ≤ n) (hn' : n ≤ 4000000000000000000) (hd : 0 < d) (hd' : d ≤ 4000000000000000000) :
    Calls Tryd.prog 68 #[.int .i64 n, .int .i64 d] w (Fresh (tripV (rat n d)) w) := by
  have g := (gcd_facts n d hd).1
  have q := ratN_bd n d hd hn hn'
  have r := ratD_pos n d hd
  have r' := ratD_bd n d hd
  obtain ⟨b1, b2, b3, b4⟩ := absI_bd n
  have K : Hid (∀ W : World, Calls Tryd.prog 100 #[.int .i64 (absI n), .int .i64 d] W fun e w' => e = .returned (.int .i64 (gcdI (absI n) d)) ∧ W = w') :=
    Lib.hid (fun W => specGcd_any d.toNat _ _ W (by omega) (by omega) (by omega) (by omega) (by omega))
  rcases hok : ratOk n d with _ | _
  · rw [← trip_eq (rat_no n d hok)]
    exact specRat_no_core n d _ w hn hn' hd hd' g q.1 q.2 r r' K (Lib.hid hok)
  · rw [← trip_eq (rat_yes n d hok)]
    exact specRat_yes_core n d _ w hn hn' hd hd' g q.1 q.2 r r' K (Lib.hid hok)

theorem implRat_any (n d : Int) (w : World) (hn : -4000000000000000000 ≤ n) (hn' : n ≤ 4000000000000000000) (hd : 0 < d) (hd' : d ≤ 4000000000000000000) :
    Calls Tryd.prog 69 #[.int .i64 n, .int .i64 d] w (Fresh (tripV (rat n d)) w) := by
  have g := (gcd_facts n d hd).1
  have q := ratN_bd n d hd hn hn'
  have r := ratD_pos n d hd
  have r' := ratD_bd n d hd
  obtain ⟨b1, b2, b3, b4⟩ := absI_bd n
  have K : Hid (∀ W : World, Calls Tryd.prog 103 #[.int .i64 (absI n), .int .i64 d] W (Drawn (.int .i64 (gcdI (absI n) d)) W)) :=
    Lib.hid (fun W => implGcd_any _ _ W (by omega) (by omega) (by omega) (by omega))
  have hk := ratOk_in n d hd
  rcases in_or_out (ratN n d) (-1000000000) 1000000000 with ⟨h1, h2⟩ | h
  · rcases in_or_out (ratD n d) 1 1000000000 with ⟨h3, h4⟩ | h'
    · rw [inB_yes _ _ _ h1 h2, inB_yes _ _ _ h3 h4] at hk
      rw [← trip_eq (rat_yes n d hk)]
      exact implRat_yes_core n d _ w hn hn' hd hd' g q.1 q.2 r r' K h1 h2 h3 h4
    · rw [outB_inB _ _ _ h', Bool.and_false] at hk
      rw [← trip_eq (rat_no n d hk)]
      exact implRat_den_core n d _ w hn hn' hd hd' g q.1 q.2 r r' K h1 h2 (Lib.hid h')
  · rw [outB_inB _ _ _ h, Bool.false_and] at hk
    rw [← trip_eq (rat_no n d hk)]
    exact implRat_no_core n d _ w hn hn' hd hd' g q.1 q.2 r r' K (Lib.hid h)

/-- MakeRatio's answer. -/
def mkR (n d : Int) : Int × Int × Int := if inB n (-1000000000) 1000000000 && inB d 1 1000000000 then rat n d else (0, 0, 2)
theorem mkR_yes (n d : Int) (h1 : -1000000000 ≤ n) (h2 : n ≤ 1000000000) (h3 : 1 ≤ d) (h4 : d ≤ 1000000000) : rat n d = mkR n d := by
  unfold mkR; rw [inB_yes _ _ _ h1 h2, inB_yes _ _ _ h3 h4]; rfl
theorem mkR_num (n d : Int) (h : outB n (-1000000000) 1000000000) : mkR n d = (0, 0, 2) := by unfold mkR; rw [outB_inB _ _ _ h]; rfl
theorem mkR_den (n d : Int) (h : outB d 1 1000000000) : mkR n d = (0, 0, 2) := by unfold mkR; rw [outB_inB _ _ _ h, Bool.and_false]; rfl

end Go.Proofs.YtjmfecjgomkofabDoor
