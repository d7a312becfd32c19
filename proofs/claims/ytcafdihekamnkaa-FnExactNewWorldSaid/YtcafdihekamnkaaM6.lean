/- Chapter 6's model: SetNew, DescOk. -/
import Derived.Test.YtcafdihekamnkaaM4
import Derived.Test.YtcafdihekamnkaaM1
import Derived.Test.YtcafdihekamnkaaM2
namespace Go.Proofs.Ytcafdihekamnkaa
set_option maxRecDepth 100000
open Go.RowKit Go.Proofs Go.Own
set_option linter.unusedVariables false
set_option linter.unusedSimpArgs false
theorem oneCell_E (x : Entry) : ∀ c ∈ Entry.enc x, c.oneCell' = true := by intro c hc; simp [Entry.enc] at hc; rcases hc with rfl | rfl | rfl | rfl | rfl <;> rfl
/-- Two cells of a row of the call's own: an entry's New and Write. -/
theorem owns_wr6 {w : World} {base e g c : Nat} {xs : List Entry} (h : w.ownsRow base e 5 (.slice (some ⟨g, 0, none⟩) xs.length c) xs.length (xs.flatMap Entry.enc)) (k : Nat) (hk : k < xs.length) (x : Int) :
    ((w.setCell ⟨g, k * 5 + 3, none⟩ (.int .i64 x)).setCell ⟨g, k * 5 + 4, none⟩ (.bool true)).ownsRow base e 5 (.slice (some ⟨g, 0, none⟩) xs.length c) (setAt xs k x).length ((setAt xs k x).flatMap Entry.enc) := by
  rw [setAt_len, ← setAt_cells xs k x hk]
  exact owns_put (owns_put h _ _) _ _
end Go.Proofs.Ytcafdihekamnkaa
/- Chapter 6's model: Meets. -/
namespace Go.Proofs.Ytcafdihekamnkaa
set_option maxRecDepth 100000
open Go.RowKit Go.Proofs Go.Own
open Go Go.BigFrame
set_option linter.unusedVariables false
set_option linter.unusedSimpArgs false
end Go.Proofs.Ytcafdihekamnkaa
/- Chapter 7's model: StoreOk. -/
namespace Go.Proofs.Ytcafdihekamnkaa
set_option maxRecDepth 100000
open Go.RowKit Go.Proofs Go.Own
open Go Go.BigFrame
set_option linter.unusedVariables false
set_option linter.unusedSimpArgs false
end Go.Proofs.Ytcafdihekamnkaa
/- Chapter 7's model: a store copied. -/
namespace Go.Proofs.Ytcafdihekamnkaa
set_option maxRecDepth 100000
open Go.RowKit Go.Proofs Go.Own
set_option linter.unusedVariables false
set_option linter.unusedSimpArgs false
theorem oneCell_H (xs : List Head) : ∀ c ∈ xs.flatMap Head.enc, c.oneCell' = true := oneCell_enc (f := Head.enc) (by intro x c hc; simp [Head.enc] at hc; rcases hc with rfl | rfl | rfl <;> rfl) xs
theorem take_snoc {α : Type} (xs : List α) (k : Nat) (h : k < xs.length) : xs.take k ++ [xs[k]] = xs.take (k+1) := by rw [List.take_append_getElem h]
end Go.Proofs.Ytcafdihekamnkaa
/- Chapter 7's model: the next frame. -/
/- Chapter 7's model: Look, FrameOk, Held. -/
namespace Go.Proofs.Ytcafdihekamnkaa
set_option maxRecDepth 100000
open Go.RowKit Go.Proofs Go.Own
open Go Go.BigFrame
set_option linter.unusedVariables false
set_option linter.unusedSimpArgs false
theorem oneCell_1 (x : Int) : ∀ c ∈ [Value.int .i64 x], c.oneCell' = true := by intro c hc; simp at hc; subst hc; rfl
theorem encI_snoc (xs : List Int) (x : Int) : (xs ++ [x]).flatMap encI = xs.flatMap encI ++ [Value.int .i64 x] := by simp [encI]
end Go.Proofs.Ytcafdihekamnkaa
namespace Go.Proofs.Ytcafdihekamnkaa
set_option maxRecDepth 100000
open Go.RowKit Go.Proofs Go.Own
open Go Go.BigFrame
set_option linter.unusedVariables false
set_option linter.unusedSimpArgs false
end Go.Proofs.Ytcafdihekamnkaa
