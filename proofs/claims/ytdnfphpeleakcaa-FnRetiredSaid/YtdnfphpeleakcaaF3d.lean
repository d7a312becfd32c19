/- Chapter 3: a pass, step by step. -/
import Derived.Test.YtdnfphpeleakcaaF3b
namespace Go.Proofs.Ytdnfphpeleakcaa
set_option maxRecDepth 100000
open Go.RowKit Go.Proofs Go.Own
set_option linter.unusedVariables false
set_option linter.unusedSimpArgs false

def leastAt (ps : List Int) (k : Nat) : Int := (ps.take k).foldl (fun m p => if 0 ≤ p then min m p else m) 1000001
theorem leastAt_zero (ps : List Int) : leastAt ps 0 = 1000001 := rfl
theorem leastAt_all (ps : List Int) : leastAt ps ps.length = leastF ps := by simp [leastAt, leastF]
theorem leastAt_succ (ps : List Int) (k : Nat) (hk : k < ps.length) (x : Int) (hx : ps[k] = x) : leastAt ps (k + 1) = if 0 ≤ x then min (leastAt ps k) x else leastAt ps k := by
  simp only [leastAt, List.take_add_one, List.getElem?_eq_getElem hk, Option.toList_some, List.foldl_append, List.foldl_cons, List.foldl_nil, hx]
theorem passAt_zero (y : Yard) : passAt y 0 = (y.arena, [], 0) := rfl
theorem passAt_succ (y : Yard) (k : Nat) (hk : k < y.retired.length) (g : Gone) (hg : y.retired[k] = g) : passAt y (k + 1) = passStep (leastF y.pins) (passAt y k) g := by
  simp only [passAt, List.take_add_one, List.getElem?_eq_getElem hk, Option.toList_some, List.foldl_append, List.foldl_cons, List.foldl_nil, hg]
theorem give_lens (a : Arena) (h : Int) : (giveF a h).1.blocks.length = a.blocks.length ∧ (giveF a h).1.list.length ≤ a.list.length + 1 := by
  simp only [giveF]
  split
  · refine ⟨by simp, ?_⟩
    dsimp only
    split <;> simp
  · simp
theorem pass_lens (y : Yard) : ∀ k, k ≤ y.retired.length → (passAt y k).1.blocks.length = y.arena.blocks.length ∧ (passAt y k).1.list.length ≤ y.arena.list.length + k ∧ (passAt y k).2.1.length ≤ k ∧ 0 ≤ (passAt y k).2.2 ∧ (passAt y k).2.2 ≤ k
  | 0, _ => by simp [passAt_zero]
  | k + 1, h => by
    obtain ⟨h1, h2, h3, h4, h5⟩ := pass_lens y k (by omega)
    rw [passAt_succ y k (by omega) _ rfl]
    simp only [passStep]
    split
    · have := give_lens (passAt y k).1 y.retired[k].handle_
      dsimp only; omega
    · simp only [List.length_append, List.length_singleton]; omega
theorem arena_list_len {bs : List Block} {ls : List Int} (h : arenaOk ⟨bs, ls⟩ = true) : ls.length ≤ 24 := by
  have h24 := (arenaOk_len h).2
  simp only [arenaOk, Bool.and_eq_true, decide_eq_true_eq] at h
  have := List.countP_le_length (p := openB) (l := bs)
  omega
theorem yardOk_parts {bs : List Block} {ls ps : List Int} {gs : List Gone} {n : Int} (h : yardOk ⟨⟨bs, ls⟩, ps, gs, n⟩ = true) : bs.length ≤ 24 ∧ ls.length ≤ 24 ∧ ps.length ≤ 6 ∧ gs.length ≤ 24 ∧ 0 ≤ n ∧ n ≤ 1000000 := by
  have ha := yardOk_arena h
  simp only [yardOk, Bool.and_eq_true, decide_eq_true_eq, inB] at h
  exact ⟨(arenaOk_len ha).2, arena_list_len ha, by omega, h.1.2, h.1.1.1.1.2.1, h.1.1.1.1.2.2⟩
end Go.Proofs.Ytdnfphpeleakcaa
