/- Chapter 7's model: StoreOk. -/
import Derived.Test.YtbbdchlabdilcaaS6c
import Derived.Test.YtbbdchlabdilcaaF7
namespace Go.Proofs.Ytbbdchlabdilcaa
set_option maxRecDepth 100000
open Go.RowKit Go.Proofs Go.Own
open Go Go.BigFrame
set_option linter.unusedVariables false
set_option linter.unusedSimpArgs false
theorem spec_DescOkIs (ow st : Int) (v : Value) (xs : List Entry) (r : Bool) (w : World) (h : Entrys w v xs) (e : descOk ow st xs = r) :
    Calls Try.prog 34 #[.agg #[.int .i64 ow, .int .i64 st, v]] w fun e w' => e = .returned (.bool r) ∧ Below w.heap.size w w' := by
  subst e; exact spec_DescOk0 ow st v xs w h
end Go.Proofs.Ytbbdchlabdilcaa
