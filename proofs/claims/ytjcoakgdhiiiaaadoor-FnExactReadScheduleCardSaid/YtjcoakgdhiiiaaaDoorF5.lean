/- Chapter 5: what its functions answer. -/
import Derived.Test.YtjcoakgdhiiiaaaDoorF0
import Derived.Test.YtjcoakgdhiiiaaaDoorTypes5
namespace Go.Proofs.YtjcoakgdhiiiaaaDoor
set_option maxRecDepth 100000
open Go.RowKit Go.Proofs Go.Own
def runOk (r : Run) : Bool := inB r.thread_ 0 3 && inB r.many_ 1 500
def okFrom : List Run → Int → Bool
  | [], s => decide (s ≤ 1500)
  | r :: rs, s => if runOk r = true then (if s ≤ 1500 then okFrom rs (s + r.many_) else false) else false
/-- Whether a list is a schedule. -/
def schedOk (xs : List Run) : Bool := decide (xs.length ≤ 60) && okFrom xs 0
theorem okFrom_step {xs : List Run} {k : Nat} (h : k < xs.length) (s : Int) : okFrom (xs.drop k) s = if runOk xs[k] = true then (if s ≤ 1500 then okFrom (xs.drop (k+1)) (s + xs[k].many_) else false) else false := by
  rw [List.drop_eq_getElem_cons h]; rfl
/-- How many steps are a thread's. -/
def countT (t : Int) : List Int → Nat
  | [] => 0
  | x :: xs => (if x = t then 1 else 0) + countT t xs
theorem countT_le (t : Int) : ∀ xs, countT t xs ≤ xs.length
  | [] => Nat.le_refl _
  | x :: xs => by have := countT_le t xs; unfold countT; split <;> simp <;> omega
theorem countT_step {xs : List Int} {k : Nat} (h : k < xs.length) (t : Int) : countT t (xs.drop k) = (if xs[k] = t then 1 else 0) + countT t (xs.drop (k+1)) := by
  rw [List.drop_eq_getElem_cons h]; rfl
def leftC (xs : List Int) (t f : Int) : Int := if 0 ≤ f ∧ f ≤ xs.length then countT t (xs.drop f.toNat) else -1
def stepsOf (xs : List Run) : List Int := xs.flatMap fun r => List.replicate r.many_.toNat r.thread_
end Go.Proofs.YtjcoakgdhiiiaaaDoor
