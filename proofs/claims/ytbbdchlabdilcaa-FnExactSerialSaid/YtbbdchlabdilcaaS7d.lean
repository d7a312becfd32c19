/- Chapter 7's model: the next frame. -/
import Derived.Test.YtbbdchlabdilcaaS7b
/- Chapter 7's model: Look, FrameOk, Held. -/
namespace Go.Proofs.Ytbbdchlabdilcaa
set_option maxRecDepth 100000
open Go.RowKit Go.Proofs Go.Own
open Go Go.BigFrame
set_option linter.unusedVariables false
set_option linter.unusedSimpArgs false
theorem oneCell_1 (x : Int) : ∀ c ∈ [Value.int .i64 x], c.oneCell' = true := by intro c hc; simp at hc; subst hc; rfl
theorem encI_snoc (xs : List Int) (x : Int) : (xs ++ [x]).flatMap encI = xs.flatMap encI ++ [Value.int .i64 x] := by simp [encI]
end Go.Proofs.Ytbbdchlabdilcaa
namespace Go.Proofs.Ytbbdchlabdilcaa
set_option maxRecDepth 100000
open Go.RowKit Go.Proofs Go.Own
open Go Go.BigFrame
set_option linter.unusedVariables false
set_option linter.unusedSimpArgs false
end Go.Proofs.Ytbbdchlabdilcaa
