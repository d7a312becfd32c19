/- Chapter 13: chains, what they are. -/
import Derived.Test.YtadbgfaboafkeaaC13b
import Derived.Test.YtadbgfaboafkeaaF0
namespace Go.Proofs.Ytadbgfaboafkeaa
set_option maxRecDepth 100000
open Go.RowKit Go.Proofs Go.Own
open Go Go.BigFrame
def nodeFree (n : Node) : Bool := n.key_ == 0 && n.value_ == 0 && n.next_ == 0
def nodeVal (n : Node) : Bool := isVal n.key_ && isVal n.value_
def nodeOk (n : Node) : Bool := match n.used_ with | true => nodeVal n | false => nodeFree n
def nd (L : List Node) (p : Int) : Node := L.getD p.toNat zNode
def usedN (L : List Node) : Nat := L.countP (·.used_)
def lastOk (L : List Node) (last p : Int) : Bool := decide (last < 0) || decide ((nd L last).key_ < (nd L p).key_)
/-- From place p on, behind the place last, the chain goes over u used nodes, their keys ascending. -/
def linkTo (L : List Node) : Nat → Int → Int → Bool
  | 0, p, _ => decide (p = -1)
  | u+1, p, last => inB p 0 15 && (nd L p).used_ && lastOk L last p && linkTo L u (nd L p).next_ p
def chainOk (c : ChainD) : Bool := c.nodes_.all nodeOk && linkTo c.nodes_ (usedN c.nodes_) c.first_ (-1)
theorem usedN_take (L : List Node) (k : Nat) (h : k < L.length) : usedN (L.take (k+1)) = usedN (L.take k) + (if L[k].used_ = true then 1 else 0) := by
  unfold usedN
  rw [List.take_succ_eq_append_getElem h, List.countP_append]
  cases h9 : L[k].used_ <;> simp [h9]
theorem usedN_le (L : List Node) (k : Nat) : usedN (L.take k) ≤ k := Nat.le_trans List.countP_le_length (by simp; omega)
theorem allOk_take (L : List Node) (k : Nat) (h : k < L.length) : (L.take (k+1)).all nodeOk = ((L.take k).all nodeOk && nodeOk L[k]) := by
  rw [List.take_succ_eq_append_getElem h, List.all_append]; simp
theorem allOk_no (L : List Node) (k : Nat) (h : k < L.length) (hn : nodeOk L[k] = false) : L.all nodeOk = false := by
  rw [Bool.eq_false_iff]
  intro h9
  rw [List.all_eq_true] at h9
  have := h9 _ (List.getElem_mem h)
  rw [hn] at this; cases this
theorem nd_eq (L : List Node) (p : Int) (h : p.toNat < L.length) : nd L p = L[p.toNat] := by
  unfold nd; rw [List.getD_eq_getElem?_getD, List.getElem?_eq_getElem h]; rfl
/-- The walk along a chain to a key: the place, the one ahead of it, how many were opened, whether it came to an end. -/
def walkTo (L : List Node) (key : Int) : Nat → Int → Int → Nat → Int × Int × Nat × Bool
  | 0, p, a, n => if p = -1 then (-1, a, n, true) else (0, 0, n, false)
  | f+1, p, a, n => if p = -1 then (-1, a, n, true) else if key ≤ (nd L p).key_ then (p, a, n+1, true) else walkTo L key f (nd L p).next_ p (n+1)
def walkC (c : ChainD) (key : Int) : Int × Int × Nat × Bool := walkTo c.nodes_ key 10 c.first_ (-1) 0
theorem linkTo_place {L : List Node} {m : Nat} {p a : Int} (h : linkTo L m p a = true) (hp : ¬ p = -1) : ∃ m', m = m' + 1 ∧ (0 ≤ p ∧ p ≤ 15) ∧ linkTo L m' (nd L p).next_ p = true := by
  cases m with
  | zero => simp [linkTo, hp] at h
  | succ m =>
    simp only [linkTo, Bool.and_eq_true] at h
    refine ⟨m, rfl, by simpa [inB] using h.1.1.1, h.2⟩
theorem chainOk_link {c : ChainD} (h : chainOk c = true) : linkTo c.nodes_ (usedN c.nodes_) c.first_ (-1) = true := by
  unfold chainOk at h; rw [Bool.and_eq_true] at h; exact h.2
/-- Where a walk ends. -/
def plOk (p : Int) : Prop := p = -1 ∨ (0 ≤ p ∧ p ≤ 15)
theorem linkTo_pl {L : List Node} {m : Nat} {p a : Int} (h : linkTo L m p a = true) : plOk p := by
  by_cases hp : p = -1
  · exact .inl hp
  · obtain ⟨m', _, h2, _⟩ := linkTo_place h hp
    exact .inr h2
theorem walkTo_ok (L : List Node) (key : Int) : ∀ (f m : Nat) (p a : Int) (n : Nat), linkTo L m p a = true → plOk a → plOk (walkTo L key f p a n).1 ∧ plOk (walkTo L key f p a n).2.1 ∧ (walkTo L key f p a n).2.2.1 ≤ n + f
  | 0, m, p, a, n, h, ha => by
    unfold walkTo
    split
    · exact ⟨.inl rfl, ha, by simp⟩
    · exact ⟨.inr (by simp), .inr (by simp), by simp⟩
  | f+1, m, p, a, n, h, ha => by
    unfold walkTo
    split
    · exact ⟨.inl rfl, ha, Nat.le_add_right _ _⟩
    · rename_i hp
      split
      · exact ⟨linkTo_pl h, ha, by show n + 1 ≤ n + (f + 1); omega⟩
      · obtain ⟨m', _, _, h3⟩ := linkTo_place h hp
        have z := walkTo_ok L key f m' _ p (n+1) h3 (linkTo_pl h)
        exact ⟨z.1, z.2.1, by have := z.2.2; omega⟩
theorem walkC_ok {c : ChainD} (key : Int) (h : chainOk c = true) : plOk (walkC c key).1 ∧ plOk (walkC c key).2.1 ∧ (walkC c key).2.2.1 ≤ 10 := by
  have z := walkTo_ok c.nodes_ key 10 _ _ (-1) 0 (chainOk_link h) (.inl rfl)
  exact ⟨z.1, z.2.1, by have := z.2.2; unfold walkC; omega⟩
end Go.Proofs.Ytadbgfaboafkeaa
