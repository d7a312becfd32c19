/- Chapter 3: what the yards' contracts lean on. -/
import Derived.Test.YtdnfphpeleakcaaS3d
import Derived.Test.YtdnfphpeleakcaaBox
namespace Go.Proofs.Ytdnfphpeleakcaa
set_option maxRecDepth 100000
open Go.RowKit Go.Proofs Go.Own
open Go
set_option linter.unusedVariables false
set_option linter.unusedSimpArgs false

theorem owns_set5 {X : World} {b base e sz n : Nat} {v : Value} {cs : List Value} (h : X.ownsRow base e sz v n cs) (hb : b < base) (x0 x1 x2 x3 x4 : Value) : (((((X.setCell ⟨b, 0, none⟩ x0).setCell ⟨b, 1, none⟩ x1).setCell ⟨b, 2, none⟩ x2).setCell ⟨b, 3, none⟩ x3).setCell ⟨b, 4, none⟩ x4).ownsRow base e sz v n cs :=
  owns_setCell (owns_setCell (owns_setCell (owns_setCell (owns_setCell h _ _ hb) _ _ hb) _ _ hb) _ _ hb) _ _ hb
theorem below_set5 {N : Nat} {W X : World} {b : Nat} (h : Below N W X) (hb : N ≤ b) (x0 x1 x2 x3 x4 : Value) : Below N W (((((X.setCell ⟨b, 0, none⟩ x0).setCell ⟨b, 1, none⟩ x1).setCell ⟨b, 2, none⟩ x2).setCell ⟨b, 3, none⟩ x3).setCell ⟨b, 4, none⟩ x4) :=
  ((((h.setCell hb _).setCell hb _).setCell hb _).setCell hb _).setCell hb _
theorem pins_ge {bs : List Block} {ls ps : List Int} {gs : List Gone} {n : Int} (h : yardOk ⟨⟨bs, ls⟩, ps, gs, n⟩ = true) (q : Nat) (hq : q < ps.length) (x : Int) (hx : ps[q] = x) : -1 ≤ x ∧ x ≤ n := by
  simp only [yardOk, Bool.and_eq_true] at h
  have := List.all_eq_true.1 h.1.1.2 ps[q] (List.getElem_mem hq)
  rw [hx] at this
  simpa [inB] using this

end Go.Proofs.Ytdnfphpeleakcaa
