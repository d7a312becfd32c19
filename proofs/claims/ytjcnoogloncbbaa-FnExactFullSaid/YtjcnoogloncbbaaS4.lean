/- Chapter 4's model: Full, PhTimes. -/
import Derived.Test.YtjcnoogloncbbaaF4
namespace Go.Proofs.Ytjcnoogloncbbaa
set_option maxRecDepth 100000
open Go.RowKit Go.Proofs Go.Own
set_option linter.unusedVariables false
theorem spec_Full (o : Slim) (w : World) :
    Calls Try.prog 15 #[o.val] w fun e w' => ∃ p : Phasor, e = .returned p.val ∧ p.rd = fullR o.rd ∧ Below w.heap.size w w' := by
  obtain ⟨a, b⟩ := o
  unfold Slim.val
  dsimp only
  go_enter Try.func15, Try.ntmps15
  go_wp2
  exact bodyPost_ret (v := .agg #[.float .f64 _, .float .f64 _]) (by simp [results, Try.results15, go_sem]; exact ⟨rfl, rfl⟩) rfl ⟨⟨_, _⟩, rfl, by simp only [ph_rd, rd_add, rd_sub, rd_mul, rd_quo, rd_neg, fc_wide, fullR, timesR, plusR, barR, Slim.rd, Phasor.rd], (by repeat (first | exact Below.refl _ _ | refine below_drewN ?_ _ | refine Below.drew ?_ | refine Below.setCell ?_ (by simp; try omega) _ | refine Below.alloc ?_ (by simp; try omega) _))⟩
theorem spec_PhTimes (o p : Phasor) (w : World) :
    Calls Try.prog 19 #[o.val, p.val] w fun e w' => ∃ q : Phasor, e = .returned q.val ∧ q.rd = timesR o.rd p.rd ∧ Below w.heap.size w w' := by
  obtain ⟨a, b⟩ := o
  obtain ⟨c, d⟩ := p
  unfold Phasor.val
  dsimp only
  go_enter Try.func19, Try.ntmps19
  go_wp2
  exact bodyPost_ret (v := .agg #[.float .f64 _, .float .f64 _]) (by simp [results, Try.results19, go_sem]; exact ⟨rfl, rfl⟩) rfl ⟨⟨_, _⟩, rfl, by simp only [ph_rd, rd_add, rd_sub, rd_mul, rd_quo, rd_neg, fc_wide, fullR, timesR, plusR, barR, Slim.rd, Phasor.rd], (by repeat (first | exact Below.refl _ _ | refine below_drewN ?_ _ | refine Below.drew ?_ | refine Below.setCell ?_ (by simp; try omega) _ | refine Below.alloc ?_ (by simp; try omega) _))⟩
end Go.Proofs.Ytjcnoogloncbbaa
