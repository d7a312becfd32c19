/- Chapter 3: rows and boxes are apart by their types. -/
import Derived.Test.YtdnfphpeleakcaaY3
namespace Go.Proofs.Ytdnfphpeleakcaa
set_option maxRecDepth 100000
open Go.RowKit Go.Proofs Go.Own
open Go
set_option linter.unusedVariables false
set_option linter.unusedSimpArgs false

theorem owns_not {w : World} {base e sz n b t : Nat} {v : Value} {cs : List Value} {arr : Array Value} {f : Nat × Nat} (h : w.ownsRow base e sz v n cs) (hb : w.heap[b]? = some (.cells arr t f)) (he : e ≠ t) : ∀ k, v.ownBlock = some k → k ≠ b := by
  intro k hk e'
  subst e'
  rcases h.2 with ⟨rfl, _⟩ | ⟨g, cap, cur, rfl, _, hg, _⟩
  · cases hk
  · simp only [Value.ownBlock, Option.some.injEq] at hk
    subst hk
    rw [hb] at hg
    simp only [Option.some.injEq, Obj.cells.injEq] at hg
    exact he hg.2.1.symm
theorem apart_ne {v : Value} {B : Nat} (h : ∀ k, v.ownBlock = some k → k ≠ B) : v.ownBlock = none ∨ v.ownBlock ≠ some B := by
  cases hv : v.ownBlock with
  | none => exact .inl rfl
  | some k => exact .inr fun e => h k hv (Option.some.inj e)
end Go.Proofs.Ytdnfphpeleakcaa
