/- Sums and comparisons of lists of objects. -/
import Derived.Test.YtjcnoogloncbbaaF4
namespace Go.Proofs.Ytjcnoogloncbbaa
set_option maxRecDepth 100000
open Go.RowKit Go.Proofs Go.Own
def zeroC : C := (some 0, some 0)
def sumFrom (acc : C) : List C → C
  | [] => acc
  | x :: xs => sumFrom (plusR acc x) xs
def sumC (xs : List C) : C := sumFrom zeroC xs
theorem rd_zero : rd 0 = some 0 := rdF_some (by decide)
theorem drop_rd {xs : List Phasor} {k : Nat} (h : k < xs.length) : (xs.map Phasor.rd).drop k = xs[k].rd :: (xs.map Phasor.rd).drop (k+1) := by
  rw [List.drop_eq_getElem_cons (by simpa using h)]
  simp
theorem drop_end {xs : List Phasor} {k : Nat} (h : ¬ k < xs.length) : (xs.map Phasor.rd).drop k = [] := by
  apply List.drop_eq_nil_of_le; simp; omega
/-- Whether two floats are == (-0 is 0; a NaN is nothing). -/
def eqR (a b : R) : Bool := ford .f64 a b == some .eq
theorem order_rd (x y : Nat) : FloatKind.f64.format.order x y = ford .f64 (rd x) (rd y) := (ford_rd _ _ _).symm
def eqC (a b : C) : Bool := eqR a.1 b.1 && eqR a.2 b.2
def alikeFrom : List C → List C → Bool
  | [], _ => true
  | _, [] => true
  | x :: xs, y :: ys => eqC x y && alikeFrom xs ys
def alikeC (xs ys : List C) : Bool := xs.length == ys.length && alikeFrom xs ys
end Go.Proofs.Ytjcnoogloncbbaa
