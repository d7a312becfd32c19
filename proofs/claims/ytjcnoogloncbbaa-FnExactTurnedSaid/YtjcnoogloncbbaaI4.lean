/- The program's chapter 4: the small functions. -/
import Derived.Test.YtjcnoogloncbbaaF4
import Derived.Deep.RegionHeld3
import Derived.StillTailTactics
namespace Go.Proofs.Ytjcnoogloncbbaa
set_option maxRecDepth 100000
open Go.RowKit Go.Proofs Go.Own
set_option linter.unusedVariables false
set_option linter.unusedSimpArgs false
theorem impl_numberOf (a b : Nat) (w : World) :
    Calls Try.prog 41 #[.agg #[.float .f64 a, .float .f64 b]] w fun e w' => e = .returned (.complex .f64 a b) ∧ w' = w.alloc (.cells #[.float .f64 a, .float .f64 b] 29) := by
  go_enter Try.func41, Try.ntmps41
  go_wp2
  go_ret
  exact ⟨rfl, rfl⟩
theorem impl_phasorOf (a b : Nat) (w : World) :
    Calls Try.prog 43 #[.complex .f64 a b] w fun e w' => e = .returned (.agg #[.float .f64 a, .float .f64 b]) ∧ w' = w.alloc (.cells #[.float .f64 a, .float .f64 b] 29) := by
  go_enter Try.func43, Try.ntmps43
  go_wp2
  exact bodyPost_ret (v := .agg #[.float .f64 a, .float .f64 b]) (by simp [results, Try.results43, go_sem]) rfl ⟨rfl, rfl⟩
theorem impl_product (a b : Nat) (w : World) :
    Calls Try.prog 52 #[.float .f64 a, .float .f64 b] w fun e w' => ∃ r n, e = .returned (.float .f64 r) ∧ rd r = mulR (rd a) (rd b) ∧ w' = w.drewN n := by
  go_enter Try.func52, Try.ntmps52
  go_wp2
  go_ret
  exact ⟨_, _, rfl, rd_mul _ _ _, rfl⟩
theorem impl_barred (a b : Nat) (w : World) :
    Calls Try.prog 54 #[.complex .f64 a b] w fun e w' => e = .returned (.complex .f64 a (Op.negFloat .f64 b)) ∧ w' = w := by
  go_enter Try.func54, Try.ntmps54
  go_wp2
  go_ret
  exact ⟨rfl, rfl⟩
theorem impl_times (a b c d : Nat) (w : World) :
    Calls Try.prog 44 #[.complex .f64 a b, .complex .f64 c d] w fun e w' => ∃ x y n, e = .returned (.complex .f64 x y) ∧ (rd x, rd y) = timesR (rd a, rd b) (rd c, rd d) ∧ w' = w.drewN n := by
  go_enter Try.func44, Try.ntmps44
  go_wp2_with fail
  refine (impl_product a c _).mono ?_
  rintro e w1 ⟨r1, n1, rfl, h1, rfl⟩
  go_wp2_with fail
  refine (impl_product b d _).mono ?_
  rintro e w2 ⟨r2, n2, rfl, h2, rfl⟩
  go_wp2_with fail
  refine (impl_product a d _).mono ?_
  rintro e w3 ⟨r3, n3, rfl, h3, rfl⟩
  go_wp2_with fail
  refine (impl_product b c _).mono ?_
  rintro e w4 ⟨r4, n4, rfl, h4, rfl⟩
  go_wp2
  go_ret
  exact ⟨_, _, _, rfl, by simp only [rd_add, rd_sub, h1, h2, h3, h4, timesR], rfl⟩
theorem impl_Full (o : Slim) (w : World) :
    Calls Try.prog 17 #[o.val] w fun e w' => ∃ p : Phasor, e = .returned p.val ∧ p.rd = fullR o.rd ∧ Below w.heap.size w w' := by
  obtain ⟨a, b⟩ := o
  unfold Slim.val
  dsimp only
  go_enter Try.func17, Try.ntmps17
  go_wp2_with fail
  refine (impl_phasorOf _ _ _).mono ?_
  rintro e w1 ⟨rfl, rfl⟩
  go_wp2
  exact bodyPost_ret (v := .agg #[.float .f64 _, .float .f64 _]) (by simp [results, Try.results17, go_sem]; exact ⟨rfl, rfl⟩) rfl ⟨⟨_, _⟩, rfl, by simp only [ph_rd, rd_add, rd_sub, rd_mul, rd_quo, rd_neg, fc_wide, fullR, timesR, plusR, barR, Slim.rd, Phasor.rd], (by repeat (first | exact Below.refl _ _ | refine below_drewN ?_ _ | refine Below.drew ?_ | refine Below.setCell ?_ (by simp; try omega) _ | refine Below.alloc ?_ (by simp; try omega) _))⟩
set_option maxHeartbeats 4000000 in
theorem impl_PhTimes_x (a b c d : Nat) (w : World) :
    Calls Try.prog 20 #[.agg #[.float .f64 a, .float .f64 b], .agg #[.float .f64 c, .float .f64 d]] w fun e w' => ∃ x y n, e = .returned (.agg #[.float .f64 x, .float .f64 y]) ∧ (rd x, rd y) = timesR (rd a, rd b) (rd c, rd d) ∧ w' = ((((((w.alloc (.cells #[.float .f64 a, .float .f64 b] 29)).alloc (.cells #[.float .f64 c, .float .f64 d] 29)).alloc (.cells #[.float .f64 x, .float .f64 y] 29)).alloc (.cells #[.float .f64 a, .float .f64 b] 29)).alloc (.cells #[.float .f64 c, .float .f64 d] 29)).alloc (.cells #[.float .f64 x, .float .f64 y] 29)).drewN n := by
  go_enter Try.func20, Try.ntmps20
  go_wp2_with fail
  go_region_with (first
    | (go_at_call 41; refine (impl_numberOf _ _ _).mono ?_; rintro e w' ⟨rfl, rfl⟩)
    | (go_at_call 44; refine (impl_times _ _ _ _ _).mono ?_; rintro e w' ⟨x, y, n, rfl, hx, rfl⟩)
    | (go_at_call 43; refine (impl_phasorOf _ _ _).mono ?_; rintro e w' ⟨rfl, rfl⟩))
  all_goals go_wp2
  all_goals exact bodyPost_ret (v := .agg #[.float .f64 x, .float .f64 y]) (by simp [results, Try.results20, go_sem]) rfl ⟨x, y, _, rfl, hx, rfl⟩
theorem impl_PhTimes (o p : Phasor) (w : World) :
    Calls Try.prog 20 #[o.val, p.val] w fun e w' => ∃ q : Phasor, e = .returned q.val ∧ q.rd = timesR o.rd p.rd ∧ Below w.heap.size w w' := by
  refine (impl_PhTimes_x o.re_ o.im_ p.re_ p.im_ w).mono ?_
  rintro e w' ⟨x, y, n, rfl, h, rfl⟩
  exact ⟨⟨x, y⟩, rfl, h, (by repeat (first | exact Below.refl _ _ | refine below_drewN ?_ _ | refine Below.drew ?_ | refine Below.setCell ?_ (by simp; try omega) _ | refine Below.alloc ?_ (by simp; try omega) _))⟩
end Go.Proofs.Ytjcnoogloncbbaa
