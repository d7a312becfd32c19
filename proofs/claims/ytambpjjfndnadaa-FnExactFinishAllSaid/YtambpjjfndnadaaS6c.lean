/- Chapter 6's model: Meets. -/
import Derived.Test.YtambpjjfndnadaaS6b
import Derived.Test.YtambpjjfndnadaaExt
namespace Go.Proofs.Ytambpjjfndnadaa
set_option maxRecDepth 100000
open Go.RowKit Go.Proofs Go.Own
open Go Go.BigFrame
set_option linter.unusedVariables false
set_option linter.unusedSimpArgs false
theorem spec_OpenedIs (v : Value) (xs : List Entry) (o : Int) (r : Int) (w : World) (h : Entrys w v xs) (e : openedC xs o = r) :
    Calls Try.prog 83 #[v, .int .i64 o] w fun e w' => e = .returned (.int .i64 r) ∧ Below w.heap.size w w' := by
  subst e; exact spec_Opened0 v xs o w h
end Go.Proofs.Ytambpjjfndnadaa
