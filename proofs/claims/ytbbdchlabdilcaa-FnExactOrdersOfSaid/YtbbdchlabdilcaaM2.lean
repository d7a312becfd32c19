/- Chapter 7's model: a store copied. -/
import Derived.Test.YtbbdchlabdilcaaM1
import Derived.Test.YtbbdchlabdilcaaEnc4
namespace Go.Proofs.Ytbbdchlabdilcaa
set_option maxRecDepth 100000
open Go.RowKit Go.Proofs Go.Own
set_option linter.unusedVariables false
set_option linter.unusedSimpArgs false
theorem oneCell_H (xs : List Head) : ∀ c ∈ xs.flatMap Head.enc, c.oneCell' = true := oneCell_enc (f := Head.enc) (by intro x c hc; simp [Head.enc] at hc; rcases hc with rfl | rfl | rfl <;> rfl) xs
theorem take_snoc {α : Type} (xs : List α) (k : Nat) (h : k < xs.length) : xs.take k ++ [xs[k]] = xs.take (k+1) := by rw [List.take_append_getElem h]
end Go.Proofs.Ytbbdchlabdilcaa
/- Chapter 7's model: the next frame. -/
/- Chapter 7's model: Look, FrameOk, Held. -/
namespace Go.Proofs.Ytbbdchlabdilcaa
set_option maxRecDepth 100000
open Go.RowKit Go.Proofs Go.Own
open Go Go.BigFrame
set_option linter.unusedVariables false
set_option linter.unusedSimpArgs false
theorem oneCell_1 (x : Int) : ∀ c ∈ [Value.int .i64 x], c.oneCell' = true := by intro c hc; simp at hc; subst hc; rfl
theorem encI_snoc (xs : List Int) (x : Int) : (xs ++ [x]).flatMap encI = xs.flatMap encI ++ [Value.int .i64 x] := by simp [encI]
end Go.Proofs.Ytbbdchlabdilcaa
namespace Go.Proofs.Ytbbdchlabdilcaa
set_option maxRecDepth 100000
open Go.RowKit Go.Proofs Go.Own
open Go Go.BigFrame
set_option linter.unusedVariables false
set_option linter.unusedSimpArgs false
end Go.Proofs.Ytbbdchlabdilcaa
