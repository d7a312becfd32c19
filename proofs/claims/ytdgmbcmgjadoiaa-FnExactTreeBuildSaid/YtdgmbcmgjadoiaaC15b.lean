/- Trees: the laws' helpers, whole trees. -/
import Derived.Test.YtdgmbcmgjadoiaaC15
namespace Go.Proofs.Ytdgmbcmgjadoiaa
set_option maxRecDepth 100000
open Go.RowKit Go.Proofs Go.Own
open Go Go.BigFrame
set_option linter.unusedVariables false
set_option linter.unusedSimpArgs false
theorem zero_run {P : Program} {t : TypeId} {v : Value} (w : World) (h : (P.info? t).bind (·.zero) = some v) : (zeroValue t).run P w = .ok v w := by
  cases e : P.info? t with
  | none => rw [e] at h; cases h
  | some i =>
    rw [e] at h
    have h2 : i.zero = some v := h
    simp [zeroValue, typeInfo, e, h2]
structure TreeD where
  twigs_ : List Twig
  root_ : Int
def TreeD.enc (c : TreeD) : List Value := c.twigs_.flatMap Twig.enc ++ [.int .i64 c.root_]
theorem tree_len {c : TreeD} (h : c.twigs_.length = 16) : c.enc.length = 65 := by
  unfold TreeD.enc; rw [List.length_append, twigs_len, h]; rfl
theorem tree_one (c : TreeD) : c.enc.all (·.oneCell') = true := by
  unfold TreeD.enc
  rw [List.all_append, twigs_one]; rfl
end Go.Proofs.Ytdgmbcmgjadoiaa
