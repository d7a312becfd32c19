/- Chapter 4's model: Full, PhTimes. -/
import Derived.Test.YtjcnoogloncbbaaF4
namespace Go.Proofs.Ytjcnoogloncbbaa
set_option maxRecDepth 100000
open Go.RowKit Go.Proofs Go.Own
set_option linter.unusedVariables false
set_option linter.unusedSimpArgs false
theorem spec_Full (o : Slim) (w : World) :
    Calls Try.prog 15 #[o.val] w fun e w' => ∃ p : Phasor, e = .returned p.val ∧ p.rd = fullR o.rd ∧ Below w.heap.size w w' := by
  obtain ⟨a, b⟩ := o
  unfold Slim.val
  dsimp only
  go_enter Try.func15, Try.ntmps15
  go_wp2
  exact bodyPost_ret (v := .agg #[.float .f64 _, .float .f64 _]) (by simp [results, Try.results15, go_sem] <;> exact ⟨rfl, rfl⟩) rfl ⟨⟨_, _⟩, rfl, by simp only [ph_rd, rd_add, rd_sub, rd_mul, rd_quo, rd_neg, fc_wide, fullR, timesR, plusR, barR, Slim.rd, Phasor.rd], (by repeat (first | exact Below.refl _ _ | refine below_drewN ?_ _ | refine Below.drew ?_ | refine Below.setCell ?_ (by simp; try omega) _ | refine Below.alloc ?_ (by simp; try omega) _))⟩
theorem spec_PhTimes_x (a b c d : Nat) (w : World) :
    Calls Try.prog 19 #[.agg #[.float .f64 a, .float .f64 b], .agg #[.float .f64 c, .float .f64 d]] w fun e w' => ∃ x y n, e = .returned (.agg #[.float .f64 x, .float .f64 y]) ∧ (rd x, rd y) = timesR (rd a, rd b) (rd c, rd d) ∧ w' = (((w.alloc (.cells #[.float .f64 a, .float .f64 b] 29)).alloc (.cells #[.float .f64 c, .float .f64 d] 29)).alloc (.cells #[.float .f64 x, .float .f64 y] 29)).drewN n := by
  go_enter Try.func19, Try.ntmps19
  go_wp2
  exact bodyPost_ret (v := .agg #[.float .f64 _, .float .f64 _]) (by simp [results, Try.results19, go_sem] <;> exact ⟨rfl, rfl⟩) rfl ⟨_, _, _, rfl, by simp only [ph_rd, rd_add, rd_sub, rd_mul, rd_quo, rd_neg, fc_wide, fullR, timesR, plusR, barR, Slim.rd, Phasor.rd], rfl⟩
theorem spec_PhTimes (o p : Phasor) (w : World) :
    Calls Try.prog 19 #[o.val, p.val] w fun e w' => ∃ q : Phasor, e = .returned q.val ∧ q.rd = timesR o.rd p.rd ∧ Below w.heap.size w w' := by
  refine (spec_PhTimes_x o.re_ o.im_ p.re_ p.im_ w).mono ?_
  rintro e w' ⟨x, y, n, rfl, h, rfl⟩
  exact ⟨⟨x, y⟩, rfl, h, (by repeat (first | exact Below.refl _ _ | refine below_drewN ?_ _ | refine Below.drew ?_ | refine Below.setCell ?_ (by simp; try omega) _ | refine Below.alloc ?_ (by simp; try omega) _))⟩
theorem toPhasor_x (a b : Nat) (w : World) :
    Calls Try.prog 12 #[.agg #[.float .f64 a, .float .f64 b]] w fun e w' => e = .returned (.agg #[.float .f64 a, .float .f64 b]) ∧ w' = ((w.alloc (.cells #[.float .f64 a, .float .f64 b] 24)).alloc (.cells #[.float .f64 a, .float .f64 b] 29)).alloc (.cells #[.float .f64 a, .float .f64 b] 29) := by
  go_enter Try.func12, Try.ntmps12
  go_wp2
  exact bodyPost_ret (v := .agg #[.float .f64 a, .float .f64 b]) (by simp [results, Try.results12, go_sem]) rfl ⟨rfl, rfl⟩
end Go.Proofs.Ytjcnoogloncbbaa
