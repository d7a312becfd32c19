/- Chapter 2's model: Take. -/
import Derived.Test.YtdnfphpeleakcaaS2b
import Derived.Test.YtdnfphpeleakcaaBox
import Derived.Test.YtdnfphpeleakcaaSl
import Derived.StillTailTactics
import Derived.IntWalk
namespace Go.Proofs.Ytdnfphpeleakcaa
set_option maxRecDepth 100000
open Go.RowKit Go.Proofs Go.Own
set_option linter.unusedVariables false
set_option linter.unusedSimpArgs false

theorem take_at {bs : List Block} {ls : List Int} (hok : arenaOk ⟨bs, ls⟩ = true) (hl : 0 < ls.length) : ∃ q : Nat, ls[0] = q ∧ q < bs.length ∧ bs.length ≤ 24 := by
  have h24 := (arenaOk_len hok).2
  have : placeIn ⟨bs, ls⟩ 0 = true := by
    simp only [arenaOk, Bool.and_eq_true] at hok
    exact List.all_eq_true.1 hok.1.2 0 (List.mem_range.2 hl)
  rw [placeIn_at hl _ rfl] at this
  simp only [Bool.and_eq_true, inB, decide_eq_true_eq] at this
  exact ⟨ls[0].toNat, by omega, by omega, h24⟩
theorem takeF_no {bs : List Block} {ls : List Int} (hok : arenaOk ⟨bs, ls⟩ = false) : takeF ⟨bs, ls⟩ = (⟨bs, ls⟩, -1, false) := by simp [takeF, hok]
theorem takeF_nil {bs : List Block} {ls : List Int} (hl : ls.length = 0) : takeF ⟨bs, ls⟩ = (⟨bs, ls⟩, -1, false) := by
  have : ls = [] := List.eq_nil_of_length_eq_zero hl
  subst this; simp [takeF]
theorem takeF_yes {bs : List Block} {ls : List Int} {q : Nat} {gg : Int} (hok : arenaOk ⟨bs, ls⟩ = true) (hl : 0 < ls.length) (hq : ls[0] = q) (hg : (bs.getD q zeroB).gen_ = gg) : takeF ⟨bs, ls⟩ = (⟨bs.set q ⟨gg, false, 0, 0, 0⟩, ls.drop 1⟩, 8 * (q : Int) + gg, true) := by
  cases ls with
  | nil => simp at hl
  | cons p t =>
    simp only [List.getElem_cons_zero] at hq
    subst hq
    simp only [takeF, hok, List.headD_cons, Int.toNat_natCast, hg]
    rfl
end Go.Proofs.Ytdnfphpeleakcaa
