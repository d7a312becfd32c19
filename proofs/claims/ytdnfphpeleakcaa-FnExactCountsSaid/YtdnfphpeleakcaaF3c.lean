/- Chapter 3's counts. -/
import Derived.Test.YtdnfphpeleakcaaF3b
import Derived.Test.YtdnfphpeleakcaaBox
namespace Go.Proofs.Ytdnfphpeleakcaa
set_option maxRecDepth 100000
open Go.RowKit Go.Proofs Go.Own
set_option linter.unusedVariables false
set_option linter.unusedSimpArgs false

/-- How many of the first k places are of this class. -/
def cntN (bs : List Block) (ls : List Int) (gs : List Gone) (c : Int) (k : Nat) : Nat := (List.range k).countP fun p => decide (classAt bs ls gs p = c)
def cntOf (bs : List Block) (ls : List Int) (gs : List Gone) (c : Int) (k : Nat) : Int := (cntN bs ls gs c k : Int)
def cntF (y : Yard) (c : Int) : Int := if yardOk y then cntOf y.arena.blocks y.arena.list y.retired c y.arena.blocks.length else 0
theorem cntOf_zero (bs : List Block) (ls : List Int) (gs : List Gone) (c : Int) : cntOf bs ls gs c 0 = 0 := rfl
theorem cntOf_le (bs : List Block) (ls : List Int) (gs : List Gone) (c : Int) (k : Nat) : 0 ≤ cntOf bs ls gs c k ∧ cntOf bs ls gs c k ≤ k := by
  have : cntN bs ls gs c k ≤ k := by
    have := List.countP_le_length (p := fun p => decide (classAt bs ls gs p = c)) (l := List.range k)
    simpa [cntN] using this
  simp only [cntOf]; omega
theorem cntOf_succ (bs : List Block) (ls : List Int) (gs : List Gone) (c : Int) (k : Nat) : cntOf bs ls gs c (k + 1) = cntOf bs ls gs c k + if classAt bs ls gs k = c then 1 else 0 := by
  simp only [cntOf, cntN, List.range_succ, List.countP_append, List.countP_singleton]
  by_cases h : classAt bs ls gs k = c <;> simp [h]
theorem class_four (bs : List Block) (ls : List Int) (gs : List Gone) (k : Nat) : classAt bs ls gs k = 0 ∨ classAt bs ls gs k = 1 ∨ classAt bs ls gs k = 2 ∨ classAt bs ls gs k = 3 := by
  simp only [classAt]; split
  · exact .inl rfl
  · split
    · exact .inr (.inl rfl)
    · split
      · exact .inr (.inr (.inl rfl))
      · exact .inr (.inr (.inr rfl))
end Go.Proofs.Ytdnfphpeleakcaa
