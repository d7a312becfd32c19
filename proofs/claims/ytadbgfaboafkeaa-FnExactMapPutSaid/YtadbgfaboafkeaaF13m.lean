/- Chapter 13: where a new node goes; what a put makes of a chain. -/
import Derived.Test.YtadbgfaboafkeaaF13
namespace Go.Proofs.Ytadbgfaboafkeaa
set_option maxRecDepth 100000
open Go.RowKit Go.Proofs Go.Own
open Go Go.BigFrame
/-- The first place from k on whose node is not used, else -1. -/
def freeFrom : List Node → Nat → Int
  | [], _ => -1
  | x :: L, k => if x.used_ = true then freeFrom L (k+1) else (k : Int)
def freeC (L : List Node) : Int := freeFrom L 0
theorem freeFrom_drop (L : List Node) (k : Nat) (h : k < L.length) : freeFrom (L.drop k) k = if L[k].used_ = true then freeFrom (L.drop (k+1)) (k+1) else (k : Int) := by
  rw [List.drop_eq_getElem_cons h]; rfl
theorem freeFrom_in : ∀ (L : List Node) (k : Nat), freeFrom L k = -1 ∨ ∃ j : Nat, freeFrom L k = ((k + j : Nat) : Int) ∧ j < L.length
  | [], _ => .inl rfl
  | x :: L, k => by
    unfold freeFrom
    split
    · rcases freeFrom_in L (k+1) with h | ⟨j, h, hj⟩
      · exact .inl h
      · exact .inr ⟨j + 1, by rw [h]; congr 1; omega, by simp; omega⟩
    · exact .inr ⟨0, rfl, by simp⟩
theorem freeC_in {L : List Node} (hL : L.length = 16) : freeC L = -1 ∨ ∃ j : Nat, freeC L = (j : Int) ∧ j < 16 := by
  rcases freeFrom_in L 0 with h | ⟨j, h, hj⟩
  · exact .inl h
  · exact .inr ⟨j, by unfold freeC; rw [h]; simp, by omega⟩
def putW (c : ChainD) (key val : Int) (R : Int × Int × Nat × Bool) : ChainD × Int × Int :=
  if R.2.2.2 = true then
    if R.1 < 0 ∨ ¬ (nd c.nodes_ R.1).key_ = key then
      if freeC c.nodes_ = -1 then (c, (R.2.2.1 : Int), 3)
      else if R.2.1 < 0 then (⟨c.nodes_.set (freeC c.nodes_).toNat ⟨true, key, val, R.1⟩, freeC c.nodes_⟩, (R.2.2.1 : Int), 0)
      else (⟨(c.nodes_.set (freeC c.nodes_).toNat ⟨true, key, val, R.1⟩).set R.2.1.toNat { nd (c.nodes_.set (freeC c.nodes_).toNat ⟨true, key, val, R.1⟩) R.2.1 with next_ := freeC c.nodes_ }, c.first_⟩, (R.2.2.1 : Int), 0)
    else (⟨c.nodes_.set R.1.toNat { nd c.nodes_ R.1 with value_ := val }, c.first_⟩, (R.2.2.1 : Int), 0)
  else (c, (R.2.2.1 : Int), 2)
def putC (c : ChainD) (key val : Int) : ChainD × Int × Int := if (chainOk c && isVal key && isVal val) = true then putW c key val (walkC c key) else (c, 0, 1)
theorem set_value : ∀ (L : List Node) (k : Nat) (h : k < L.length) (v : Int), (L.flatMap Node.enc).set (k * 4 + 2) (.int .i64 v) = (L.set k { L[k] with value_ := v }).flatMap Node.enc
  | x :: L, 0, h, v => by simp [Node.enc]
  | x :: L, k+1, h, v => by
    have ih := set_value L k (by simpa using h) v
    rw [List.flatMap_cons, List.set_cons_succ, List.flatMap_cons, List.set_append_right _ _ (by show 4 ≤ _; omega), List.getElem_cons_succ, ← ih, show (k + 1) * 4 + 2 - (Node.enc x).length = k * 4 + 2 from by show (k + 1) * 4 + 2 - 4 = _; omega]
end Go.Proofs.Ytadbgfaboafkeaa
