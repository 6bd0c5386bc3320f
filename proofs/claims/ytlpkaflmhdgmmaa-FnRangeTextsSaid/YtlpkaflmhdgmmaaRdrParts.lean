/-
  The reader of range texts: all parts.
-/
import Derived.Test.YtlpkaflmhdgmmaaRdrPart
import Derived.Test.YtlpkaflmhdgmmaaPartWalk
namespace Go.Proofs.Ytlpkaflmhdgmmaa
open Go.RowKit
set_option linter.unusedVariables false

/-- How much of the text is left. -/
def restLen (w : World) (g : Nat) : Nat := match w.cell? ⟨g, 0, none⟩ with | some (.string s) => s.size | _ => 0
theorem restLen_eq {w : World} {g : Nat} {l : List UInt8} {p : Int → Bool} (h : Rdr w g l p) : restLen w g = l.length := by
  unfold restLen
  rw [h.text.1]
  show (⟨l.toArray⟩ : ByteArray).size = _
  show l.toArray.size = _
  simp
/-- What readParts leaves. -/
def PartsTo (g : Nat) (ps : List (List UInt8)) (w : World) (e : Ending) (w' : World) : Prop :=
  (okK ps ps.length ∧ RdrTo g [] (hasB (accK ps ps.length)) (.tuple #[]) w e w') ∨ (¬ okK ps ps.length ∧ RdrDies g w e w')
/-- What the loop keeps. -/
def PtSt (g : Nat) (ps : List (List UInt8)) (w wr : World) : Prop := ∃ rest q, Rdr wr g rest q ∧ w.grownBy wr (some g) ∧ PSt ps rest q
set_option maxRecDepth 100000 in
set_option maxHeartbeats 4000000 in
theorem readParts_any (g : Nat) (l : List UInt8) (w : World) (h : Rdr w g l (fun _ => false)) :
    Calls Try.prog 28 #[.pointer (some ⟨g, 0, none⟩)] w (PartsTo g (splitB 44 l) w) := by
  obtain ⟨h0, hl, h44, _⟩ := split_start l
  generalize splitB 44 l = ps at *
  have H44 := Lib.hid h44
  have hs := part_step ps 0 h0 (okK_zero ps) h44
  rw [← hl] at hs
  have e0 : (fun c => hasB (accK ps 0) c || hasB ([] : List Int) c) = (fun _ => false) := by rw [accK_zero]; funext c; simp [hasB]
  have hq : ∀ x : Grp × Int, orP (fun _ => false) (rowG x) = (fun c => hasB (accK ps 0) c || hasB (rowG x) c) := fun x => by rw [accK_zero]; funext c; simp [orP, hasB]
  have HR := Lib.hid h
  clear h44 hl e0
  rcases hs with ⟨hn, hno⟩ | ⟨x, rest, hn, hst, _⟩
  · have K := Lib.hid (readPart_no g l _ w HR.out hn)
    have HNO := Lib.hid hno
    clear hn hno h0 hq
    go_enter Try.func28, Try.ntmps28
    go_wp2_with (go_at_call 49; ((with_reducible refine K.out.mono ?_); rintro e w1 ⟨u, v, rfl, hg1⟩; have G1 := Lib.hid hg1; clear hg1))
    exact ⟨rfl, .inr ⟨HNO.out, dies_of G1.out⟩⟩
  · have K := Lib.hid (readPart_yes g l _ w HR.out x rest hn)
    rw [hq x] at K
    have HST := Lib.hid hst
    clear hn hst h0 hq
    go_enter Try.func28, Try.ntmps28
    go_wp2_with (go_at_call 49; ((with_reducible refine K.out.mono ?_); rintro e w1 ⟨rfl, hr1, hg1⟩; have P1 : Hid (PtSt g ps w w1) := Lib.hid ⟨_, _, hr1, hg1, HST.out⟩; clear hr1 hg1))
    go_loopw [] (fun wr => Hid (PtSt g ps w wr)) (fun wr => restLen wr g)
    case atStart => exact P1
    case round =>
      obtain ⟨rest, q, hr, hg, hst⟩ := hrel.out
      have R0 := Lib.hid hr
      have G0 := Lib.hid hg
      obtain ⟨c0, f0⟩ := hr.text
      rcases pst_cases hst with ⟨rfl, ho, rfl⟩ | ⟨k, hk, ho, rfl, rfl⟩ | ⟨hno, e, r, rfl, he⟩
      · have HO := Lib.hid ho
        clear hr hg hst ho
        go_wp2_with fail
        go_end0
        exact .inl ⟨HO.out, rfl, R0.out, G0.out⟩
      · have hs := part_step ps k hk ho H44.out
        have HL := Lib.hid (restLen_eq hr)
        generalize ps[k] ++ jnB 44 (ps.drop (k + 1)) = tx at *
        have KS := Lib.hid (skip_yes g 44 tx _ wr hr)
        rcases hs with ⟨hn, hno⟩ | ⟨x, rest, hn, hst2, hle⟩
        · have KP := Lib.hid (fun W (hW : Rdr W g tx (hasB (accK ps k))) => readPart_no g tx _ W hW hn)
          have HNO := Lib.hid hno
          clear hr hg hst ho hn hno
          go_wp2_with (first
            | (go_at_call 50; ((with_reducible refine KS.out.mono ?_); rintro e w2 ⟨rfl, hr2, hg2⟩; have R2 := Lib.hid hr2; have G2 := Lib.hid hg2; clear hr2 hg2))
            | (go_at_call 49; ((with_reducible refine (KP.out _ R2.out).mono ?_); rintro e w3 ⟨u, v, rfl, hg3⟩; have G3 := Lib.hid hg3; clear hg3)))
          exact ⟨rfl, .inr ⟨HNO.out, dies_of ((G0.out.trans G2.out).trans G3.out)⟩⟩
        · have KP := Lib.hid (fun W (hW : Rdr W g tx (hasB (accK ps k))) => readPart_yes g tx _ W hW x rest hn)
          have HST2 := Lib.hid hst2
          have HLE := Lib.hid hle
          clear hr hg hst ho hn hst2 hle
          go_wp2_with (first
            | (go_at_call 50; ((with_reducible refine KS.out.mono ?_); rintro e w2 ⟨rfl, hr2, hg2⟩; have R2 := Lib.hid hr2; have G2 := Lib.hid hg2; clear hr2 hg2))
            | (go_at_call 49; ((with_reducible refine (KP.out _ R2.out).mono ?_); rintro e w3 ⟨rfl, hr3, hg3⟩; have R3 := Lib.hid hr3; have G3 := Lib.hid hg3; clear hr3 hg3)))
          go_roundw
          case rel => exact Lib.hid ⟨_, _, R3.out, (G0.out.trans G2.out).trans G3.out, HST2.out⟩
          case measure => rw [HL.out, restLen_eq R3.out, List.length_cons]; have := HLE.out; omega
      · have KS := Lib.hid (skip_no g 44 (e :: r) _ wr hr (noHead_cons he))
        have HNO := Lib.hid hno
        clear hr hg hst hno he
        go_wp2_with (go_at_call 50; ((with_reducible refine KS.out.mono ?_); rintro e w2 ⟨rfl, hr2, hg2⟩; have G2 := Lib.hid hg2; clear hr2 hg2))
        exact ⟨rfl, .inr ⟨HNO.out, dies_of (G0.out.trans G2.out)⟩⟩
end Go.Proofs.Ytlpkaflmhdgmmaa
