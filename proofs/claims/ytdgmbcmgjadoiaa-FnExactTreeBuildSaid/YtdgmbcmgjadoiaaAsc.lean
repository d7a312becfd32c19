/- Whether a list of numbers ascends. Of any program. -/
import Derived.Test.YtdgmbcmgjadoiaaBase
namespace Go.Proofs.Ytdgmbcmgjadoiaa
set_option maxRecDepth 100000
open Go.RowKit Go.Proofs Go.Own
set_option linter.unusedVariables false
def ascI : List Int → Bool
  | [] => true
  | [_] => true
  | a :: b :: r => decide (a < b) && ascI (b :: r)
/-- The list ascends up to a place. -/
def upTo (xs : List Int) (i : Nat) : Prop := ∀ j, 0 < j → j < i → (hj : j < xs.length) → xs[j-1]'(by omega) < xs[j]
theorem ascI_all : ∀ xs : List Int, ascI xs = true ↔ upTo xs xs.length
  | [] => by simp [ascI, upTo]
  | [a] => by
    refine ⟨fun _ j h0 h1 h2 => ?_, fun _ => rfl⟩
    simp at h2; omega
  | a :: b :: r => by
    rw [show ascI (a :: b :: r) = (decide (a < b) && ascI (b :: r)) from rfl, Bool.and_eq_true, decide_eq_true_eq, ascI_all (b :: r)]
    constructor
    · rintro ⟨h1, h2⟩ j h0 hj hl
      match j, h0, hj, hl with
      | 1, _, _, _ => exact h1
      | j+2, _, hj, hl => exact h2 (j+1) (by omega) (by simp at hj ⊢; omega) (by simp at hl ⊢; omega)
    · intro h
      refine ⟨h 1 (by omega) (by simp) (by simp), fun j h0 hj hl => ?_⟩
      match j, h0, hj, hl with
      | j+1, _, hj, hl => exact h (j+2) (by omega) (by simp at hj ⊢; omega) (by simp at hl ⊢; omega)
theorem upTo_next {xs : List Int} {i : Nat} (h : upTo xs i) (hi : i < xs.length) (h0 : 0 < i) (hk : xs[i-1]'(by omega) < xs[i]) : upTo xs (i+1) := fun j j0 ji jl => by
  by_cases e : j = i
  · subst e; exact hk
  · exact h j j0 (by omega) jl
end Go.Proofs.Ytdgmbcmgjadoiaa
