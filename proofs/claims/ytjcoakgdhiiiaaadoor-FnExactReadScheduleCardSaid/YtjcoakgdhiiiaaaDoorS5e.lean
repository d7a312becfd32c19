/- Chapter 5's model: WaysOf. -/
import Derived.Test.YtjcoakgdhiiiaaaDoorS5
namespace Go.Proofs.YtjcoakgdhiiiaaaDoor
set_option maxRecDepth 100000
open Go.RowKit Go.Proofs Go.Own
set_option linter.unusedVariables false
set_option linter.unusedSimpArgs false
def waysIn : Nat → Nat → Nat → Nat → Option (Nat × Nat)
  | 0, _, ways, all => some (ways, all)
  | n+1, k, ways, all => if 9000000000000000000 / (all + 1) < ways then none else waysIn n (k+1) (ways * (all + 1) / k) (all + 1)
def waysFrom : List Int → Nat → Nat → Option Nat
  | [], ways, _ => some ways
  | c :: cs, ways, all => (waysIn c.toNat 1 ways all).bind fun p => if 1000000000000000 < p.1 then none else waysFrom cs p.1 p.2
def waysC (xs : List Int) : Option Nat := if xs.length ≤ 4 ∧ allIn xs 0 60 0 = true then waysFrom xs 1 0 else none
theorem waysFrom_step {xs : List Int} {i : Nat} (h : i < xs.length) (W A : Nat) : waysFrom (xs.drop i) W A = (waysIn xs[i].toNat 1 W A).bind fun p => if 1000000000000000 < p.1 then none else waysFrom (xs.drop (i+1)) p.1 p.2 := by
  rw [List.drop_eq_getElem_cons h]; rfl
end Go.Proofs.YtjcoakgdhiiiaaaDoor
