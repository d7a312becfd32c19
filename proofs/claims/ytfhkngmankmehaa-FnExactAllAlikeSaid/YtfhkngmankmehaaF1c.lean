/- What chapter 1 says of two lists of ops, one behind the other; two lists compared. -/
import Derived.Test.YtfhkngmankmehaaF1
namespace Go.Proofs.Ytfhkngmankmehaa
open Go.RowKit Go.Proofs Go.Own

/-- Two lists agree from the place k on. -/
def eqFrom (xs ys : List Int) (k : Nat) : Bool := decide (xs.drop k = ys.drop k)
theorem eqFrom_zero (xs ys : List Int) : decide (xs = ys) = eqFrom xs ys 0 := by simp [eqFrom]
theorem eqFrom_step (xs ys : List Int) (k : Nat) (h : k < xs.length) (h' : k < ys.length) : eqFrom xs ys k = (!(xs[k] != ys[k]) && eqFrom xs ys (k+1)) := by
  have e : (xs.drop k = ys.drop k) ↔ (xs[k] = ys[k] ∧ xs.drop (k+1) = ys.drop (k+1)) := by rw [List.drop_eq_getElem_cons h, List.drop_eq_getElem_cons h', List.cons.injEq]
  simp only [eqFrom, e, Bool.decide_and]
  congr 1
  rw [Bool.eq_iff_iff]; simp
theorem eqFrom_end (xs ys : List Int) (k : Nat) (h : ¬ k < xs.length) (h' : ¬ k < ys.length) : eqFrom xs ys k = true := by
  simp [eqFrom, List.drop_eq_nil_of_le (Nat.le_of_not_lt h), List.drop_eq_nil_of_le (Nat.le_of_not_lt h')]
def behind (xs : List Int) (a b : List WordOp) : List Int := (wordsF (wordsF xs a).1 b).1
theorem behind_len (xs : List Int) (a b : List WordOp) : (behind xs a b).length = xs.length := by unfold behind; rw [wordsF_len, wordsF_len]
def alikeF (xs : List Int) (a b : List WordOp) : Bool × Bool :=
  if (memOk xs && decide (a.length + b.length ≤ 200)) = true then (decide (behind xs a b = behind xs b a), true) else (false, false)
end Go.Proofs.Ytfhkngmankmehaa
