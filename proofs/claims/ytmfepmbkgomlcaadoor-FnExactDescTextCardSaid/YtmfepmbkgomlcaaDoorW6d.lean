/- Chapter 6: DescText's contracts as the law's walk takes them. -/
import Derived.Test.YtmfepmbkgomlcaaDoorI6t
namespace Go.Proofs.YtmfepmbkgomlcaaDoor
set_option maxRecDepth 100000
open Go.RowKit Go.Proofs Go.Own
set_option linter.unusedVariables false
theorem spec_DescTextW (ow st : Int) (v : Value) (xs : List Entry) (w : World) (h : Entrys w v xs) (hx : xs.length ≤ 1048576) :
    Calls Tryd.prog 5 #[.agg #[.int .i64 ow, .int .i64 st, v]] w fun e w' => e = .returned (.string (descT ow st xs)) ∧ Below w.heap.size w w' := spec_DescText0 ow st v xs w h
theorem impl_DescTextW (ow st : Int) (v : Value) (xs : List Entry) (w : World) (h : Entrys w v xs) (hx : xs.length ≤ 1048576) (ht : Tab w) :
    Calls Tryd.prog 7 #[.agg #[.int .i64 ow, .int .i64 st, v]] w fun e w' => e = .returned (.string (descT ow st xs)) ∧ Below w.heap.size w w' := impl_DescText0 ow st v xs w h ht
end Go.Proofs.YtmfepmbkgomlcaaDoor
