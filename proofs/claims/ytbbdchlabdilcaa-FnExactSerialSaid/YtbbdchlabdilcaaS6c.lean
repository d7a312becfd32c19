/- Chapter 6's model: Meets. -/
import Derived.Test.YtbbdchlabdilcaaS6b
import Derived.Test.YtbbdchlabdilcaaExt
namespace Go.Proofs.Ytbbdchlabdilcaa
set_option maxRecDepth 100000
open Go.RowKit Go.Proofs Go.Own
open Go Go.BigFrame
set_option linter.unusedVariables false
set_option linter.unusedSimpArgs false
end Go.Proofs.Ytbbdchlabdilcaa
