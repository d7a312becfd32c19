/- Chapter 3's classes. -/
import Derived.Test.YtdnfphpeleakcaaS3b
namespace Go.Proofs.Ytdnfphpeleakcaa
set_option maxRecDepth 100000
open Go.RowKit Go.Proofs Go.Own
set_option linter.unusedVariables false
set_option linter.unusedSimpArgs false

/-- The class of a place that is a block's. -/
def classAt (bs : List Block) (ls : List Int) (gs : List Gone) (p : Nat) : Int :=
  if hasFrom ls p 0 then 0 else if (bs.getD p zeroB).free_ then 1 else if 0 ≤ findF gs (8 * p + (bs.getD p zeroB).gen_) then 2 else 3
theorem classF_at {bs : List Block} {ls ps : List Int} {gs : List Gone} {n : Int} (hok : yardOk ⟨⟨bs, ls⟩, ps, gs, n⟩ = true) (p : Nat) (hp : p < bs.length) : classF ⟨⟨bs, ls⟩, ps, gs, n⟩ p = classAt bs ls gs p := by
  have hin : inB (p : Int) 0 (bs.length - 1) = true := by simp [inB]; omega
  simp only [classF, hok, hin, classAt, Int.toNat_natCast]
  simp
theorem classF_no {y : Yard} (h : yardOk y = false) (p : Int) : classF y p = -1 := by simp [classF, h]
theorem classF_out {y : Yard} (p : Int) (h : inB p 0 (y.arena.blocks.length - 1) = false) : classF y p = -1 := by simp [classF, h]
theorem yardOk_arena {bs : List Block} {ls ps : List Int} {gs : List Gone} {n : Int} (hok : yardOk ⟨⟨bs, ls⟩, ps, gs, n⟩ = true) : arenaOk ⟨bs, ls⟩ = true := by
  simp only [yardOk, Bool.and_eq_true] at hok; exact hok.1.1.1.1.1
theorem block_gen {bs : List Block} {ls : List Int} (h : arenaOk ⟨bs, ls⟩ = true) (k : Nat) (hk : k < bs.length) (o : Block) (ho : bs[k] = o) : 0 ≤ o.gen_ ∧ o.gen_ ≤ 5 := by
  have := arenaOk_block h k hk
  rw [ho] at this
  simp only [blockOk, Bool.and_eq_true, inB, decide_eq_true_eq] at this
  exact this.1.1

end Go.Proofs.Ytdnfphpeleakcaa
