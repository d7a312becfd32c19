/- Chapter 13: how long what comes of a chain is. -/
import Derived.Test.YtadbgfaboafkeaaF13m
import Derived.Test.YtadbgfaboafkeaaS13d
import Derived.Test.YtadbgfaboafkeaaS13p
namespace Go.Proofs.Ytadbgfaboafkeaa
set_option maxRecDepth 100000
open Go.RowKit Go.Proofs Go.Own
theorem dropC_len (c : ChainD) (hc : c.nodes_.length = 16) (key : Int) : (dropC c key).1.nodes_.length = 16 := by
  unfold dropC dropW
  repeat' split
  all_goals simp [hc]
theorem putC_len (c : ChainD) (hc : c.nodes_.length = 16) (key val : Int) : (putC c key val).1.nodes_.length = 16 := by
  unfold putC putW
  repeat' split
  all_goals simp [hc]
theorem rangeTo_len (L : List Node) (lo hi : Int) : ∀ (f : Nat) (p : Int) (xs : List Int), (rangeTo L lo hi f p xs).1.length ≤ xs.length + f
  | 0, p, xs => by unfold rangeTo; split <;> simp
  | f+1, p, xs => by
    unfold rangeTo
    split
    · simp
    · split
      · simp
      · have z := rangeTo_len L lo hi f (nd L p).next_ (if lo ≤ (nd L p).key_ then xs ++ [(nd L p).key_] else xs)
        by_cases hlo : lo ≤ (nd L p).key_
        · rw [if_pos hlo] at z ⊢; simp at z; omega
        · rw [if_neg hlo] at z ⊢; omega
theorem rangeC_len (c : ChainD) (lo hi : Int) : (rangeC c lo hi).1.length ≤ 10 := by
  unfold rangeC
  split
  · simpa using rangeTo_len c.nodes_ lo hi 10 c.first_ []
  · simp
theorem pairsTo_len (L : List Node) : ∀ (m : Nat) (p : Int), (pairsTo L m p).length = m
  | 0, _ => rfl
  | m+1, p => by simp [pairsTo, pairsTo_len L m]
theorem pairsC_len (c : ChainD) (hc : c.nodes_.length = 16) : (pairsC c).length ≤ 16 := by
  unfold pairsC
  split
  · rw [pairsTo_len]; exact usedN_16 hc
  · simp
end Go.Proofs.Ytadbgfaboafkeaa
