/-
  The frame of a law's proof over listed variables of the project's own: each reads as it did; what they hold when the call begins is handed to the walk.
-/
import Derived.Test.YtcbfmfkahgfjkaaDoorLaidFrame
import Derived.OpenVars
namespace Go.Proofs.YtcbfmfkahgfjkaaDoor
open Go.ChangeShapes Go.WideShapes Go.ChangeAt Go.RowKit
set_option linter.unusedVariables false

theorem trodVars_len {H : Type} {enc : TypeId × Value → H} {P : Program} {W : World} {sp : Nat → Bool} : ∀ {ns : List String} {ds : List (DataW H)} {ps : List MemPlace}, DataW.TrodVars enc P W sp ns ds ps → ds.length = ns.length
  | [], [], _, _ => rfl
  | [], _ :: _, _, h => h.elim
  | _ :: _, [], _, h => h.elim
  | n :: ns, d :: ds, ps, h => by
    obtain ⟨g, t, cs, fuel, p, q, _, _, _, _, h2, _⟩ := h
    simp [trodVars_len h2]

set_option maxRecDepth 100000 in
theorem law_lifted_vars {os : Os} (started : os.Started) {H : Type} {enc : TypeId × Value → H} {F : FuncId} {fn : Func} {s : ChangeSpec} {laid : List (String × DataW Unit)}
    (noInit : Tryd.checked.prog.inits.idxOf? F = none) (hfn : Tryd.checked.prog.funcs[F]? = some fn) (hres : fn.resultTypes = #[4]) (hvars : varsRowed Tryd.prog s.vars = true)
    (hspec : ∀ ds gs : List (DataW H), ds.length = fn.params.toList.length → gs.length = s.vars.length → s.fn H (ds ++ gs) = { results := [.lit (.bool true)], args := ds, vars := gs })
    (hrec : ∀ t ∈ fn.params.toList, Tryd.prog.readableRec t = true ∧ t < Tryd.prog.types.size)
    (witness : ∃ (w : World) (tape : Tape) (i : Input), w.os = os ∧ (w.forCall tape i).Shaped Tryd.checked.prog ∧ i.vars = [] ∧ Input.okWide Tryd.checked.prog (w.forCall tape i) .any w.heap.size F i ∧
      ((s.pre enc Tryd.checked.prog fn [] false (w.forCall tape i).memory i.args ∧ laidMetH Tryd.prog laid (w.forCall tape i).memory) ∧ sizedMet enc Tryd.checked.prog fn (OpenSpec.ofChange s) false (w.forCall tape i).memory i.args) ∧ ({} : Assume).holds Tryd.checked.prog (lone (Frame.enter Tryd.checked.prog F i.args .normal) [] (w.forCall tape i)))
    (walk : ∀ (W : World) (base : Nat) (args : Array Value) (ds : List (DataW H)) (ps : List MemPlace),
      (∀ (j : Nat) t v, fn.params[j]? = some t → args[j]? = some v → Value.okWide Tryd.prog W .any base t v) →
      DataW.TrodAll enc Tryd.prog W 0 (fun _ => true) true fn.params.toList args.toList ds ps → laidMetH Tryd.prog laid W → W.ShapedOpen Tryd.prog →
      Calls Tryd.prog F args W fun e W' => e = .returned (.bool true) ∧ Below W.heap.size W W') :
    ReturnsInHanded {} Tryd.checked os F .any (fun w args => (s.pre enc Tryd.prog fn [] false w args ∧ laidMetH Tryd.prog laid w) ∧ sizedMet enc Tryd.prog fn (OpenSpec.ofChange s) false w args) (s.post enc Tryd.prog fn false true false false) := by
  refine returnsInHanded_of_row (C := Tryd.checked) (s := OpenSpec.ofChange s) (F := fun _ _ _ => 0) own started noInit hfn witness ?_
  intro W base args ds gs before hval hW _ _ _ hL hSh _
  have hW : DataW.Whole enc Tryd.prog fn.params.toList s.vars false W args.toList ds gs before := hW
  have hW' := hW
  obtain ⟨p, q, hA, hV, rfl, hfz, hnd⟩ := hW
  have hlt : ∀ x ∈ p, x.block < W.heap.size := fun x hx => hW'.lt x (by simp [hx])
  have hl := trodAll_len _ _ _ _ hA
  have hlv := trodVars_len hV
  refine (walk W base args ds p hval hA hL hSh).mono fun e W' ⟨he, hb⟩ => ⟨.bool true, he, ?_⟩
  have e1 : s.fn H (ds ++ gs) = { results := [.lit (.bool true)], args := ds, vars := gs } := hspec ds gs hl hlv
  show s.post enc Tryd.prog fn false true false false W args (.bool true) W'
  refine ⟨ds, gs, p ++ q, [], p, q, hW', ?_, ?_, ?_, hb.frame _, fun h => by cases h⟩
  · rw [e1, hres]; exact trodAll_cons_mk (shut_bool Tryd.underlying4 _) trodAll_mk0
  · rw [e1]; exact trodAll_below laidOut hb _ _ _ _ hrec hA hlt
  · rw [e1]; exact Below.trodVars laidOut hb hvars hV

/-! What the program's own variable holds. -/
def lowTab : List Int := [3, 2, 1, 0, 12]
def Low (B : Nat) (w : World) : Prop := Lib.TabBelow Tryd.prog B w "loop.example/g00910/impl.lowestStraight" .i64 lowTab
theorem gLow : Tryd.prog.globalNamed "loop.example/g00910/impl.lowestStraight" = some 0 := by kernel_rfl
theorem low_data : (Rows.laid_loop_example_g00910_impl_lowestStraight : DataW Unit) = Lib.tabData .i64 lowTab := rfl
theorem low_of {W : World} {r : List (String × DataW Unit)} (h : laidMet Tryd.prog (("loop.example/g00910/impl.lowestStraight", Rows.laid_loop_example_g00910_impl_lowestStraight) :: r) W) : Low W.heap.size W := by
  rw [low_data] at h
  exact Lib.tabBelow_of_tabIs (Lib.tabIs_of_head gLow (by kernel_rfl) Tryd.underlying53 Tryd.underlying2 (by kernel_rfl) (by kernel_rfl) h)
theorem low_cell {B : Nat} {w W : World} (h : Low B w) (hb : Below B w W) (i : Nat) (hi : i < 5) : W.cell? ⟨0, i, none⟩ = some (.int .i64 (lowTab.getD i 0)) :=
  (h.on hb).here.cell gLow i hi
end Go.Proofs.YtcbfmfkahgfjkaaDoor
