/- Chapter 5's model: Fair. -/
import Derived.Test.YtjcoakgdhiiiaaaDoorS5
import Derived.Test.YtjcoakgdhiiiaaaDoorBx
namespace Go.Proofs.YtjcoakgdhiiiaaaDoor
set_option maxRecDepth 100000
open Go.RowKit Go.Proofs Go.Own
set_option linter.unusedVariables false
set_option linter.unusedSimpArgs false
/-- The last place below i of a step of t's; -1 where there is none. -/
def lastIn (xs : List Int) (t : Int) : Nat → Int
  | 0 => -1
  | i+1 => if xs[i]? = some t then (i : Int) else lastIn xs t i
def badAt (xs : List Int) (th : Nat) (win : Int) (i : Nat) (t : Nat) : Bool := decide (win ≤ (i : Int) - lastIn xs (t : Int) (i+1))
/-- Whether at time i some thread from t on has had no step for so long. -/
def badFrom (xs : List Int) (th : Nat) (win : Int) (i : Nat) : Nat → Nat → Bool
  | 0, _ => false
  | n+1, t => if badAt xs th win i t = true then true else badFrom xs th win i n (t+1)
def fairFrom (xs : List Int) (th : Nat) (win : Int) : Nat → Nat → Int
  | 0, _ => -1
  | n+1, i => if badFrom xs th win i th 0 = true then (i : Int) - win + 1 else fairFrom xs th win n (i+1)
def fairOk (xs : List Int) (th win : Int) : Bool := decide (xs.length ≤ 1500) && (allIn xs 0 3 0 && (inB th 1 4 && inB win 1 1500))
def fairC (xs : List Int) (th win : Int) : Int := if fairOk xs th win = true then fairFrom xs th.toNat win xs.length 0 else -2
def lastRow (xs : List Int) (th i : Nat) : List Int := (List.range th).map fun (t : Nat) => lastIn xs (t : Int) i
theorem lastRow_len (xs : List Int) (th i : Nat) : (lastRow xs th i).length = th := by simp [lastRow]
theorem lastRow_get (xs : List Int) (th i t : Nat) (h : t < th) : (lastRow xs th i)[t]'(by rw [lastRow_len]; exact h) = lastIn xs (t : Int) i := by simp [lastRow]
theorem lastIn_bound (xs : List Int) (t : Int) : ∀ i, -1 ≤ lastIn xs t i ∧ lastIn xs t i < i
  | 0 => by simp [lastIn]
  | i+1 => by have := lastIn_bound xs t i; unfold lastIn; split <;> omega
theorem lastRow_set (xs : List Int) (th i a : Nat) (h : i < xs.length) (hx : xs[i] = (a : Int)) : (lastRow xs th i).set a (i : Int) = lastRow xs th (i+1) := by
  apply List.ext_getElem (by simp [lastRow_len])
  intro t h1 h2
  have ht : t < th := by simpa [lastRow_len] using h2
  rw [lastRow_get _ _ _ _ ht]
  unfold lastIn
  rw [List.getElem?_eq_getElem h, hx]
  by_cases he : a = t
  · subst he; simp
  · rw [List.getElem_set_ne he, lastRow_get _ _ _ _ ht, if_neg (by intro e; exact he (by have := Option.some.inj e; omega))]
theorem lastRow_same (xs : List Int) (th i : Nat) (h : i < xs.length) (hx : (th : Int) ≤ xs[i]) : lastRow xs th (i+1) = lastRow xs th i := by
  apply List.ext_getElem (by simp [lastRow_len])
  intro t h1 h2
  have ht : t < th := by simpa [lastRow_len] using h2
  rw [lastRow_get _ _ _ _ ht, lastRow_get _ _ _ _ ht]
  conv => lhs; unfold lastIn
  rw [List.getElem?_eq_getElem h, if_neg (by intro e; have := Option.some.inj e; omega)]
theorem encI_set : ∀ (l : List Int) (a : Nat) (x : Int), (l.flatMap encI).set a (.int .i64 x) = (l.set a x).flatMap encI
  | [], a, x => by simp
  | y :: l, 0, x => by simp [encI]
  | y :: l, a+1, x => by
    have ih := encI_set l a x
    simp only [List.flatMap_cons, List.set_cons_succ, ← ih]
    simp [encI]
theorem encI_get (l : List Int) (a : Nat) (h : a < l.length) : (l.flatMap encI)[a]? = some (.int .i64 l[a]) := by
  have h1 := flatMap_get encI 1 (fun _ => rfl) l a h 0 (by omega)
  rw [Nat.mul_one, Nat.add_zero] at h1
  rw [h1]; rfl
theorem infoInt5d : (Tryd.prog.info? 3).map (fun i => (i.zero, i.size, i.bytes)) = some (some (.int .i64 0), 1, 8) := by kernel_rfl
end Go.Proofs.YtjcoakgdhiiiaaaDoor
