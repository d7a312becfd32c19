/- Trees: the laws' helpers. -/
import Derived.Test.YtdgmbcmgjadoiaaAr
import Derived.Test.YtdgmbcmgjadoiaaTypes15
import Derived.Test.YtdgmbcmgjadoiaaEnc5
namespace Go.Proofs.Ytdgmbcmgjadoiaa
set_option maxRecDepth 100000
open Go.RowKit Go.Proofs Go.Own
open Go Go.BigFrame
set_option linter.unusedVariables false
set_option linter.unusedSimpArgs false
theorem twigs_len (L : List Twig) : (L.flatMap Twig.enc).length = L.length * 4 := flatMap_len Twig.enc 4 (fun _ => rfl) L
def zTwig : Twig := ⟨false, 0, 0, 0⟩
theorem twigs_one (L : List Twig) : (L.flatMap Twig.enc).all (·.oneCell') = true := by
  rw [List.all_eq_true]
  refine oneCell_enc (f := Twig.enc) (fun x c hc => ?_) L
  simp [Twig.enc] at hc
  rcases hc with rfl | rfl | rfl | rfl <;> rfl
theorem twig_one (x : Twig) : x.enc.all (·.oneCell') = true := rfl
end Go.Proofs.Ytdgmbcmgjadoiaa
