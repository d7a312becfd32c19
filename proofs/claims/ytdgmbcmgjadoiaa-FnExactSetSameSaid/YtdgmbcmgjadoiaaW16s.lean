/- Chapter 16: SetSame's contracts as the law's walk takes them. -/
import Derived.Test.YtdgmbcmgjadoiaaI16g
import Derived.Test.YtdgmbcmgjadoiaaS16g
namespace Go.Proofs.Ytdgmbcmgjadoiaa
set_option maxRecDepth 100000
open Go.RowKit Go.Proofs Go.Own
set_option linter.unusedVariables false
theorem spec_SetSameW (a : List RowD) (v : Value) (b : List RowD) (u : Value) (w : World) (r : rdsL w v a) (hb : IntSSB a) (r2 : rdsL w u b) (hb2 : IntSSB b) :
    Calls Try.prog 38 #[v, u] w fun e w' => e = .returned (.bool (sameC a b)) ∧ Below w.heap.size w w' := spec_SetSame0 a b v u w r r2 hb hb2
theorem impl_SetSameW (a : List RowD) (v : Value) (b : List RowD) (u : Value) (w : World) (r : rdsL w v a) (hb : IntSSB a) (r2 : rdsL w u b) (hb2 : IntSSB b) :
    Calls Try.prog 39 #[v, u] w fun e w' => e = .returned (.bool (sameC a b)) ∧ Below w.heap.size w w' := impl_SetSame0 a b v u w r r2 hb hb2
end Go.Proofs.Ytdgmbcmgjadoiaa
