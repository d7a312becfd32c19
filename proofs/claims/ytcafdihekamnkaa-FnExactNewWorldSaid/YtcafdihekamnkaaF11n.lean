/- Chapter 11: what NewWorld answers. -/
import Derived.Test.YtcafdihekamnkaaN11w
import Derived.Test.YtcafdihekamnkaaN11p
import Derived.Test.YtcafdihekamnkaaS10n
import Derived.Test.YtcafdihekamnkaaS7e
namespace Go.Proofs.Ytcafdihekamnkaa
set_option maxRecDepth 100000
open Go.RowKit Go.Proofs Go.Own
def okAt (ps : List ProgD) (i : Nat) : Bool := match ps[i]? with | some p => newTOk i p.is_ | none => true
theorem okAt_of (ps : List ProgD) (i : Nat) (h : i < ps.length) : okAt ps i = newTOk i ps[i].is_ := by
  unfold okAt; rw [List.getElem?_eq_getElem h]
def newWOk (xs : List Int) (ps : List ProgD) : Bool := (newOk xs && inB (ps.length : Int) 1 4) && (List.range ps.length).all (okAt ps)
def newTs (ps : List ProgD) (k : Nat) : List ThreadD := (List.range k).map fun i : Nat => match ps[i]? with | some p => newThread i p.is_ | none => ⟨0, [], 0, 0, 0, 0, 0, [], 0, [], 0, 0, 0, 0⟩
theorem newTs_succ {ps : List ProgD} {k : Nat} (h : k < ps.length) : newTs ps (k+1) = newTs ps k ++ [newThread k ps[k].is_] := by
  unfold newTs
  rw [List.range_succ, List.map_append, List.map_cons, List.map_nil, List.getElem?_eq_getElem h]
theorem newTs_len (ps : List ProgD) (k : Nat) : (newTs ps k).length = k := by simp [newTs]
def newWorld (xs : List Int) (ps : List ProgD) : WorldD := if newWOk xs ps = true then ⟨xs, ⟨newH xs, []⟩, newTs ps ps.length, []⟩ else ⟨[], ⟨[], []⟩, [], []⟩
theorem all_step' {α : Type} (f : α → Bool) (xs : List α) (k : Nat) (h : k < xs.length) (hf : f xs[k] = false) : xs.all f = false := by
  rw [List.all_eq_false]
  exact ⟨xs[k], List.getElem_mem h, by rw [hf]; simp⟩
theorem newThread_sz (i : Int) (is : List Instr) : szThreadD (newThread i is) ≤ is.length := by
  unfold newThread szThreadD
  split <;> simp
theorem newTs_sum (ps : List ProgD) : ∀ k, k ≤ ps.length → tSum (newTs ps k) ≤ pSum (ps.take k)
  | 0, _ => by simp [newTs, tSum]
  | k+1, h => by
    have ih := newTs_sum ps k (by omega)
    rw [newTs_succ (by omega), pSum_take ps k (by omega)]
    have := newThread_sz k ps[k].is_
    unfold tSum at ih ⊢
    rw [List.map_append, List.sum_append]
    simp only [List.map_cons, List.map_nil, List.sum_cons, List.sum_nil]
    omega
end Go.Proofs.Ytcafdihekamnkaa
