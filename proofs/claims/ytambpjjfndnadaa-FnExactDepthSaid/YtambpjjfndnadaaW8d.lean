/- Chapter 8: Depth's contracts as the law's walk takes them. -/
import Derived.Test.YtambpjjfndnadaaS8d
import Derived.Test.YtambpjjfndnadaaI8e
namespace Go.Proofs.Ytambpjjfndnadaa
set_option maxRecDepth 100000
open Go.RowKit Go.Proofs Go.Own
set_option linter.unusedVariables false
theorem spec_DepthW (s : StoreD) (v0 v1 : Value) (o : Int) (w : World) (r0 : rdsL w v0 s.heads_) (r1 : rdsL w v1 s.descs_) (hb : StoreB s) :
    Calls Try.prog 37 #[.agg #[v0, v1], .int .i64 o] w fun e w' => e = .returned (.int .i64 (depthC s.heads_ s.descs_ o)) ∧ Below w.heap.size w w' := spec_Depth0 s.heads_ s.descs_ v0 v1 o w r0 r1
theorem impl_DepthW (s : StoreD) (v0 v1 : Value) (o : Int) (w : World) (r0 : rdsL w v0 s.heads_) (r1 : rdsL w v1 s.descs_) (hb : StoreB s) :
    Calls Try.prog 38 #[.agg #[v0, v1], .int .i64 o] w fun e w' => e = .returned (.int .i64 (depthC s.heads_ s.descs_ o)) ∧ Below w.heap.size w w' := impl_Depth0 s.heads_ s.descs_ v0 v1 o w r0 r1
end Go.Proofs.Ytambpjjfndnadaa
