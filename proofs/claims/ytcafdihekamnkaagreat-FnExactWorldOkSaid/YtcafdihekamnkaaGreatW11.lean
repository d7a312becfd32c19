/- Chapter 11: WorldOk's contracts as the law's walk takes them. -/
import Derived.Test.YtcafdihekamnkaaGreatS11w
import Derived.Test.YtcafdihekamnkaaGreatI11w
namespace Go.Proofs.YtcafdihekamnkaaGreat
set_option maxRecDepth 100000
open Go.RowKit Go.Proofs Go.Own
set_option linter.unusedVariables false
theorem spec_WorldOkW (d : WorldD) (v0 v1 v2 v3 v4 : Value) (w : World) (r0 : rdsL w v0 d.first_) (r1 : rdsL w v1 d.store_.heads_) (r2 : rdsL w v2 d.store_.descs_) (r3 : rdsL w v3 d.threads_) (r4 : rdsL w v4 d.log_) (hb : WorldB d) :
    Calls Tryz.prog 31 #[.agg #[v0, v1, v2, v3, v4]] w fun e w' => e = .returned (.bool (worldOk d)) ∧ Below w.heap.size w w' := spec_WorldOk0 d v0 v1 v2 v3 v4 w r0 r1 r2 r3 r4 hb
theorem impl_WorldOkW (d : WorldD) (v0 v1 v2 v3 v4 : Value) (w : World) (r0 : rdsL w v0 d.first_) (r1 : rdsL w v1 d.store_.heads_) (r2 : rdsL w v2 d.store_.descs_) (r3 : rdsL w v3 d.threads_) (r4 : rdsL w v4 d.log_) (hb : WorldB d) :
    Calls Tryz.prog 13 #[.agg #[v0, v1, v2, v3, v4]] w fun e w' => e = .returned (.bool (worldOk d)) ∧ Below w.heap.size w w' := impl_WorldOk0 d v0 v1 v2 v3 v4 w r0 r1 r2 r3 r4 (by have h := worldB_parts hb; exact (storeB_parts h.2.1).2.1)
end Go.Proofs.YtcafdihekamnkaaGreat
