/-
  The model's shuffle: l03Shuffled.
-/
import Derived.Test.YtafifipnfhekiaaSeed
import Derived.Test.YtafifipnfhekiaaApart
import Derived.Test.YtafifipnfhekiaaDeckPure
namespace Go.Proofs.Ytafifipnfhekiaa
open Go.RowKit
set_option linter.unusedVariables false

theorem others_all : othersN 52 [] = sorted52 := by decide +kernel
theorem shuf_step (k : Nat) (s : Int) (ys : List Int) (h : 0 < k) : shuf k s ys = shuf (k - 1) (nextS s) (swapL ys k (nextS s % ((k : Int) + 1)).toNat) := by
  obtain ⟨j, rfl⟩ : ∃ j, k = j + 1 := ⟨k - 1, by omega⟩
  rw [shuf, Nat.add_sub_cancel]
  have e : ((j + 1 : Nat) : Int) + 1 = (j : Int) + 2 := by omega
  rw [e]
/-- The loop's state: the deck as far as it has been shuffled. -/
def Shuf (w : World) (g c : Nat) (ys : List Int) (wr : World) : Prop := Own wr w.heap.size (.slice (some ⟨g, 0, none⟩) ys.length c) ys ∧ Below w.heap.size w wr
theorem shuf_cell {w wr : World} {g c : Nat} {ys : List Int} (h : Shuf w g c ys wr) (i : Nat) (hi : i < ys.length) : wr.cell? ⟨g, i, none⟩ = some (.int .i64 (nth ys i)) ∧ wr.frozen? ⟨g, i, none⟩ = false :=
  ⟨by rw [World.ownsRow.cellAt h.1 i (by omega), ints_get ys i hi], World.ownsRow.frozenAt h.1 i⟩
theorem shuf_set {w wr : World} {g c : Nat} {ys : List Int} (h : Shuf w g c ys wr) (i : Nat) (x : Int) : Shuf w g c (ys.set i x) (wr.setCell ⟨g, i, none⟩ (.int .i64 x)) := by
  have h1 := h.1
  unfold Own at h1
  have := (h1.stored i (.int .i64 x)).1
  rw [ints_set] at this
  refine ⟨?_, h.2.setCell (World.ownsRow.lt h.1 g rfl).1 _⟩
  unfold Own
  rw [List.length_set]
  exact this

set_option maxRecDepth 100000 in
set_option maxHeartbeats 2000000 in
theorem specShuffled_any (s : Int) (w : World) (h0 : 0 ≤ s) (h1 : s ≤ 2147483646) :
    Calls Try.prog 68 #[.int .i64 s] w (NewL (shuffled s) w) := by
  have KO := Lib.hid (others_any none 0 [] w (fun h => absurd h (by simp)) (by simp))
  rw [others_all] at KO
  have HL : Hid (sorted52.length = 52) := Lib.hid (by decide +kernel)
  have HS : Hid (shuf 51 s sorted52 = shuffled s) := Lib.hid rfl
  obtain ⟨w0, rfl⟩ : ∃ w0 : World, w0 = w := ⟨w, rfl⟩
  simp only [List.length_nil] at KO
  generalize sorted52 = ys0 at *
  generalize shuffled s = zs at *
  go_enter Try.func68, Try.ntmps68
  go_wp2_with (go_at_call 71; refine KO.out.mono ?_; rintro e w1 ⟨A1, c1, rfl, ho1, hb1⟩; have HO1 := Lib.hid ho1; have HB1 := Lib.hid hb1; clear ho1 hb1)
  obtain ⟨g, rfl⟩ : ∃ g, A1 = some ⟨g, 0, none⟩ := by
    rcases HO1.out.2 with ⟨_, hn⟩ | ⟨g, cap, cur, hv, _⟩
    · have := HL.out; omega
    · injection hv with hA _ _
      exact ⟨g, hA⟩
  have HS1 : Hid (Shuf w0 g c1 ys0 w1) := Lib.hid ⟨HO1.out, HB1.out⟩
  rw [HL.out]
  go_loopw [0, 4] (fun q i wr => ∃ (k : Nat) (t : Int) (ys : List Int), k ≤ 51 ∧ i = .int .i64 k ∧ q = .int .i64 t ∧ 0 ≤ t ∧ t ≤ 2147483646 ∧ Hid (Shuf w0 g c1 ys wr) ∧ Hid (ys.length = 52) ∧ Hid (shuf k t ys = zs)) (fun _ i _ => (intOf i).toNat)
  case atStart => exact ⟨51, s, ys0, by omega, rfl, rfl, h0, h1, HS1, HL, HS⟩
  case round =>
    obtain ⟨k, t, ys, hk, rfl, rfl, ht0, ht1, hs, hl, he⟩ := hrel
    by_cases hpos : 0 < k
    · have hpos' : (1 : Int) ≤ k := by omega
      have K := Lib.hid (fun W : World => specNext_any t W ht0 ht1)
      have hb := nextS_bd t
      have HE := Lib.hid (shuf_step k t ys hpos)
      have hm0 := Int.emod_nonneg (nextS t) (b := (k : Int) + 1) (by omega)
      have hm1 := Int.emod_lt_of_pos (nextS t) (b := (k : Int) + 1) (by omega)
      generalize nextS t = u at *
      obtain ⟨hb0, hb1⟩ := hb
      generalize hmm : (u % ((k : Int) + 1)).toNat = m at *
      have hm : u % ((k : Int) + 1) = (m : Int) := by omega
      have hml : m ≤ k := by omega
      have hml' : (m : Int) < 52 := by omega
      have hkl' : (k : Int) < 52 := by omega
      obtain ⟨ck, fk⟩ := shuf_cell hs.out k (by rw [hl.out]; omega)
      obtain ⟨cm, fm⟩ := shuf_cell hs.out m (by rw [hl.out]; omega)
      have S2 := Lib.hid (shuf_set hs.out k (nth ys m))
      obtain ⟨cm2, fm2⟩ := shuf_cell S2.out m (by rw [List.length_set, hl.out]; omega)
      have S3 : Hid (Shuf w0 g c1 (swapL ys k m) ((wr.setCell ⟨g, k, none⟩ (.int .i64 (nth ys m))).setCell ⟨g, m, none⟩ (.int .i64 (nth ys k)))) := Lib.hid (shuf_set S2.out m (nth ys k))
      have L3 : Hid ((swapL ys k m).length = 52) := Lib.hid (by rw [swap_len]; exact hl.out)
      have E3 : Hid (shuf (k - 1) u (swapL ys k m) = zs) := Lib.hid (by rw [← HE.out]; exact he.out)
      have e1 : (k : Int) - 1 = ((k - 1 : Nat) : Int) := by omega
      generalize swapL ys k m = zs' at *
      generalize nth (ys.set k (nth ys m)) m = z at *
      generalize nth ys k = x at *
      generalize nth ys m = y at *
      clear hmm hm0 hm1
      go_wp2_with (go_at_call 64; refine (K.out _).mono ?_; rintro e w2 ⟨rfl, rfl⟩)
      go_roundw
      case rel => exact ⟨k - 1, u, zs', by omega, rfl, rfl, hb0, by omega, S3, L3, E3⟩
      case measure => simp [intOf]; omega
    · obtain rfl : k = 0 := by omega
      have HZ : Hid (ys = zs) := Lib.hid (by rw [← he.out]; rfl)
      have HO : Hid (Own wr w0.heap.size (.slice (some ⟨g, 0, none⟩) ys.length c1) ys) := Lib.hid hs.out.1
      have HB : Hid (Below w0.heap.size w0 wr) := Lib.hid hs.out.2
      go_wp2_with fail
      go_ret
      obtain rfl := HZ.out
      exact ⟨_, c1, by rw [hl.out]; rfl, HO.out, HB.out⟩
end Go.Proofs.Ytafifipnfhekiaa
