/- Turned and TurnAll as the laws call them. -/
import Derived.Test.YtjcnoogloncbbaaS4v
import Derived.Test.YtjcnoogloncbbaaI4w
namespace Go.Proofs.Ytjcnoogloncbbaa
set_option maxRecDepth 100000
open Go.RowKit Go.Proofs Go.Own
set_option linter.unusedVariables false
theorem spec_Turned (v : Value) (xs : List Phasor) (t : Turn4) (w : World) (h : Phasors w v xs) (hx : xs.length ≤ 1048576) :
    Calls Try.prog 24 #[v, t.val] w fun e w' => ∃ (v' : Value) (ys : List Phasor), e = .returned (.tuple #[v', .bool (turnT (xs.map Phasor.rd) t).isSome]) ∧ ys.map Phasor.rd = (turnT (xs.map Phasor.rd) t).getD (xs.map Phasor.rd) ∧ Phasors w' v' ys ∧ Below w.heap.size w w' := by
  refine (spec_Turned0 v xs t.kind_ t.at_ t.from_ t.z0_ t.z1_ w h hx).mono ?_
  rintro e w' ⟨v', ys, rfl, hy, o, b⟩
  exact ⟨v', ys, rfl, hy, Flat.of_owns o, b⟩
theorem impl_Turned (v : Value) (xs : List Phasor) (t : Turn4) (w : World) (h : Phasors w v xs) (hx : xs.length ≤ 1048576) :
    Calls Try.prog 27 #[v, t.val] w fun e w' => ∃ (v' : Value) (ys : List Phasor), e = .returned (.tuple #[v', .bool (turnT (xs.map Phasor.rd) t).isSome]) ∧ ys.map Phasor.rd = (turnT (xs.map Phasor.rd) t).getD (xs.map Phasor.rd) ∧ w'.ownsRow w.heap.size 29 2 v' ys.length (ys.flatMap Phasor.enc) ∧ ys.length ≤ 1048576 ∧ Below w.heap.size w w' :=
  impl_Turned0 v xs t.kind_ t.at_ t.from_ t.z0_ t.z1_ w h hx
theorem spec_TurnAll (v : Value) (xs : List Phasor) (u : Value) (ts : List Turn4) (w : World) (h : Phasors w v xs) (hx : xs.length ≤ 1048576) (g : Turn4s w u ts) (ht : ts.length ≤ 1048576) :
    Calls Try.prog 32 #[v, u] w fun e w' => ∃ (v' : Value) (ys : List Phasor), e = .returned (.tuple #[v', .bool (turnAllC (xs.map Phasor.rd) ts).isSome]) ∧ ys.map Phasor.rd = (turnAllC (xs.map Phasor.rd) ts).getD (xs.map Phasor.rd) ∧ Phasors w' v' ys ∧ Below w.heap.size w w' := by
  refine (spec_TurnAll0 v xs u ts w h hx g ht).mono ?_
  rintro e w' ⟨v', ys, rfl, hy, o, b⟩
  exact ⟨v', ys, rfl, hy, Flat.of_owns o, b⟩
end Go.Proofs.Ytjcnoogloncbbaa
