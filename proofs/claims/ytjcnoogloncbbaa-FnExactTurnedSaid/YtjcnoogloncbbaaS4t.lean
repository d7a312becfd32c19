/- Chapter 4's model: l4Copy, Turned. -/
import Derived.Test.YtjcnoogloncbbaaF4t
import Derived.Test.YtjcnoogloncbbaaO4c
import Derived.Test.YtjcnoogloncbbaaS0
import Derived.StillTailTactics
namespace Go.Proofs.Ytjcnoogloncbbaa
set_option maxRecDepth 100000
open Go.RowKit Go.Proofs Go.Own
set_option linter.unusedVariables false
set_option linter.unusedSimpArgs false
theorem infoPh0 : (Try.prog.info? 29).map (fun i => (i.zero, i.size, i.bytes)) = some (some (.agg #[.float .f64 0, .float .f64 0]), 2, 16) := by kernel_rfl
theorem oneCell_Ph (xs : List Phasor) : ∀ v ∈ xs.flatMap Phasor.enc, v.oneCell' = true := by
  intro v hv
  obtain ⟨o, _, h⟩ := List.mem_flatMap.1 hv
  simp only [Phasor.enc, List.mem_cons, List.not_mem_nil, or_false] at h
  rcases h with rfl | rfl <;> rfl
theorem spec_l4Copy (v : Value) (xs : List Phasor) (w : World) (h : Phasors w v xs) (hx : xs.length ≤ 1048576) :
    Calls Try.prog 47 #[v] w fun e w' => ∃ v', e = .returned v' ∧ w'.ownsRow w.heap.size 29 2 v' xs.length (xs.flatMap Phasor.enc) ∧ Below w.heap.size w w' := by
  obtain ⟨i0, hi, hz0, hz1, hz2⟩ := info_parts infoPh0
  have hone := hid (oneCell_Ph xs)
  obtain ⟨ad, cap, rfl, hl, hm⟩ := Flat.form h
  have hown : (w.alloc (.cells #[] 29)).ownsRow w.heap.size 29 2 (.slice (some ⟨w.heap.size, 0, none⟩) 0 0) 0 [] := World.ownsRow_made _ _ _ (Nat.le_refl _) (by decide) rfl
  have hB : Below w.heap.size w (w.alloc (.cells #[] 29)) := (Below.refl _ _).alloc (Nat.le_refl _) _
  have h2 := Flat.below h hB
  go_enter Try.func47, Try.ntmps47
  go_wp2_with (at_builtin; refine wpList_append_flat rfl _ _ 46 rfl w.heap.size 29 i0 (.agg #[.float .f64 0, .float .f64 0]) 2 16 Try.underlying46 hi hz0 hz1 hz2 rfl (by decide) _ _ _ rfl hown _ _ _ rfl h2 hone.out (by unfold maxLen; omega) (by omega) (by simp) ?_)
  intro v' w1 ho hg
  have hB1 := hB.trans (below_of_mark hown hg (Nat.le_refl _) (by simp))
  go_wp2
  go_ret
  exact ⟨_, rfl, by simpa using ho, hB1⟩
end Go.Proofs.Ytjcnoogloncbbaa
