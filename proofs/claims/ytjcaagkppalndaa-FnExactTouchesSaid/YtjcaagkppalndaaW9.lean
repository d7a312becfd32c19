/- Chapter 9: contracts as the laws' walks take them. -/
import Derived.Test.YtjcaagkppalndaaS9b
import Derived.Test.YtjcaagkppalndaaI9t
namespace Go.Proofs.Ytjcaagkppalndaa
set_option maxRecDepth 100000
open Go.RowKit Go.Proofs Go.Own
set_option linter.unusedVariables false
theorem spec_ProgOkW (v : Value) (xs : List Instr) (w : World) (h : Instrs w v xs) (hx : xs.length ≤ 1048576) :
    Calls Try.prog 7 #[v] w fun e w' => e = .returned (.bool (progOk xs)) ∧ Below w.heap.size w w' := spec_ProgOk v xs w h
theorem impl_ProgOkW (v : Value) (xs : List Instr) (w : World) (h : Instrs w v xs) (hx : xs.length ≤ 1048576) :
    Calls Try.prog 9 #[v] w fun e w' => e = .returned (.bool (progOk xs)) ∧ Below w.heap.size w w' := impl_ProgOk v xs w h
theorem spec_StraightW (v : Value) (xs : List Instr) (w : World) (h : Instrs w v xs) (hx : xs.length ≤ 1048576) :
    Calls Try.prog 17 #[v] w fun e w' => e = .returned (.bool (straightC xs)) ∧ Below w.heap.size w w' := spec_Straight0 v xs w h
theorem impl_StraightW (v : Value) (xs : List Instr) (w : World) (h : Instrs w v xs) (hx : xs.length ≤ 1048576) :
    Calls Try.prog 18 #[v] w fun e w' => e = .returned (.bool (straightC xs)) ∧ Below w.heap.size w w' := impl_Straight0 v xs w h
theorem spec_TouchesW (v : Value) (xs : List Instr) (w : World) (h : Instrs w v xs) (hx : xs.length ≤ 1048576) :
    Calls Try.prog 11 #[v] w fun e w' => ∃ v' : Value, e = .returned (.tuple #[v', .bool (progOk xs)]) ∧ Ints w' v' (touchL xs) ∧ Below w.heap.size w w' :=
  (spec_Touches0 v xs w h).mono fun _ _ ⟨v', he, ho, b⟩ => ⟨v', he, Flat.of_owns ho, b⟩
theorem impl_TouchesW (v : Value) (xs : List Instr) (w : World) (h : Instrs w v xs) (hx : xs.length ≤ 1048576) :
    Calls Try.prog 12 #[v] w fun e w' => ∃ v' : Value, e = .returned (.tuple #[v', .bool (progOk xs)]) ∧ w'.ownsRow w.heap.size 3 1 v' (touchL xs).length ((touchL xs).flatMap encI) ∧ (touchL xs).length ≤ 1048576 ∧ Below w.heap.size w w' :=
  (impl_Touches0 v xs w h).mono fun _ _ ⟨v', he, ho, b⟩ => ⟨v', he, ho, touchL_len xs, b⟩
end Go.Proofs.Ytjcaagkppalndaa
