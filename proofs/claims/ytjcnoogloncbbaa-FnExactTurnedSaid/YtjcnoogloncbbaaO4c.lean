/- PhOver: the model's. -/
import Derived.Test.YtjcnoogloncbbaaO4b
namespace Go.Proofs.Ytjcnoogloncbbaa
set_option maxRecDepth 100000
open Go.RowKit Go.Proofs Go.Own
set_option linter.unusedVariables false
set_option linter.unusedSimpArgs false
set_option maxHeartbeats 8000000 in
theorem spec_PhOver (a b c d : Nat) (w : World) :
    Calls Try.prog 21 #[.agg #[.float .f64 a, .float .f64 b], .agg #[.float .f64 c, .float .f64 d]] w fun e w' => ∃ x y, e = .returned (.tuple #[.agg #[.float .f64 x, .float .f64 y], .bool (overC (rd a, rd b) (rd c, rd d)).2]) ∧ (rd x, rd y) = (overC (rd a, rd b) (rd c, rd d)).1 ∧ Below w.heap.size w w' := by
  have hs : ∀ w1 w2 w3, rd (fr .add .f64 (fr .mul .f64 c c w1) (fr .mul .f64 d d w2) w3) = overS (rd c, rd d) := fun w1 w2 w3 => by rw [rd_add, rd_mul, rd_mul]; rfl
  rcases bool_cases (finR (rd a)) with f0 | f0
  · rcases bool_cases (finR (rd b)) with f1 | f1
    · rcases bool_cases (finR (rd c)) with f2 | f2
      · rcases bool_cases (finR (rd d)) with f3 | f3
        · rcases bool_cases (finR (overS (rd c, rd d))) with f4 | f4
          · rcases bool_cases (eqR (overS (rd c, rd d)) (some 0)) with f5 | f5
            · have g0 := f0.out
              have g1 := f1.out
              have g2 := f2.out
              have g3 := f3.out
              have g4 := f4.out
              have g5 := f5.out
              have hno : overOk (rd a, rd b) (rd c, rd d) = false := by simp [overOk, g0, g1, g2, g3, g4, g5]
              have h4 : ∀ w1 w2 w3, finR (rd (fr .add .f64 (fr .mul .f64 c c w1) (fr .mul .f64 d d w2) w3)) = true := fun w1 w2 w3 => by rw [hs, g4]
              have h5 : ∀ w1 w2 w3, FloatKind.f64.format.order (fr .add .f64 (fr .mul .f64 c c w1) (fr .mul .f64 d d w2) w3) 0 = some .eq := fun w1 w2 w3 => by have h := g5; rw [← hs w1 w2 w3, ← rd_zero] at h; unfold eqR at h; rw [← order_rd] at h; simpa using h
              go_enter Try.func21, Try.ntmps21
              go_wp2_with (first | (go_at_call 45; refine (spec_l4Finite _ _).mono ?_; rintro e w' ⟨n, rfl, rfl⟩) | (go_at_call 19; refine (spec_PhTimes_x _ _ _ _ _).mono ?_; rintro e w' ⟨x, y, n, rfl, hx, rfl⟩))
              exact bodyPost_ret (v := .tuple #[.agg #[.float .f64 0, .float .f64 0], .bool false]) (by simp [results, Try.results21, go_sem]) rfl ⟨0, 0, by rw [over_no hno], by rw [over_no hno, rd_zero]; rfl, (by repeat (first | exact Below.refl _ _ | refine below_drewN ?_ _ | refine Below.drew ?_ | refine Below.setCell ?_ (by simp; try omega) _ | refine Below.alloc ?_ (by simp; try omega) _))⟩
            · have g0 := f0.out
              have g1 := f1.out
              have g2 := f2.out
              have g3 := f3.out
              have g4 := f4.out
              have g5 := f5.out
              have hyes : overOk (rd a, rd b) (rd c, rd d) = true := by simp [overOk, g0, g1, g2, g3, g4, g5]
              have h4 : ∀ w1 w2 w3, finR (rd (fr .add .f64 (fr .mul .f64 c c w1) (fr .mul .f64 d d w2) w3)) = true := fun w1 w2 w3 => by rw [hs, g4]
              have h5 : ∀ w1 w2 w3, (FloatKind.f64.format.order (fr .add .f64 (fr .mul .f64 c c w1) (fr .mul .f64 d d w2) w3) 0 == some .eq) = false := fun w1 w2 w3 => by rw [order_rd, hs, rd_zero]; exact g5
              go_enter Try.func21, Try.ntmps21
              go_wp2_with (first | (go_at_call 45; refine (spec_l4Finite _ _).mono ?_; rintro e w' ⟨n, rfl, rfl⟩) | (go_at_call 19; refine (spec_PhTimes_x _ _ _ _ _).mono ?_; rintro e w' ⟨x, y, n, rfl, hx, rfl⟩))
              obtain ⟨hx1, hx2⟩ := Prod.mk.inj hx
              exact bodyPost_ret (v := .tuple #[.agg #[.float .f64 _, .float .f64 _], .bool true]) (by simp [results, Try.results21, go_sem] <;> exact ⟨rfl, rfl⟩) rfl ⟨_, _, by rw [over_yes hyes], by rw [over_yes hyes]; simp only [rd_quo, hs, hx1, hx2, rd_neg, overV, barR, timesR], (by repeat (first | exact Below.refl _ _ | refine below_drewN ?_ _ | refine Below.drew ?_ | refine Below.setCell ?_ (by simp; try omega) _ | refine Below.alloc ?_ (by simp; try omega) _))⟩
          · have g0 := f0.out
            have g1 := f1.out
            have g2 := f2.out
            have g3 := f3.out
            have g4 := f4.out
            have hno : overOk (rd a, rd b) (rd c, rd d) = false := by simp [overOk, g0, g1, g2, g3, g4]
            have h4 : ∀ w1 w2 w3, finR (rd (fr .add .f64 (fr .mul .f64 c c w1) (fr .mul .f64 d d w2) w3)) = false := fun w1 w2 w3 => by rw [hs, g4]
            go_enter Try.func21, Try.ntmps21
            go_wp2_with (first | (go_at_call 45; refine (spec_l4Finite _ _).mono ?_; rintro e w' ⟨n, rfl, rfl⟩) | (go_at_call 19; refine (spec_PhTimes_x _ _ _ _ _).mono ?_; rintro e w' ⟨x, y, n, rfl, hx, rfl⟩))
            exact bodyPost_ret (v := .tuple #[.agg #[.float .f64 0, .float .f64 0], .bool false]) (by simp [results, Try.results21, go_sem]) rfl ⟨0, 0, by rw [over_no hno], by rw [over_no hno, rd_zero]; rfl, (by repeat (first | exact Below.refl _ _ | refine below_drewN ?_ _ | refine Below.drew ?_ | refine Below.setCell ?_ (by simp; try omega) _ | refine Below.alloc ?_ (by simp; try omega) _))⟩
        · have g0 := f0.out
          have g1 := f1.out
          have g2 := f2.out
          have g3 := f3.out
          have hno : overOk (rd a, rd b) (rd c, rd d) = false := by simp [overOk, g0, g1, g2, g3]
          go_enter Try.func21, Try.ntmps21
          go_wp2_with (first | (go_at_call 45; refine (spec_l4Finite _ _).mono ?_; rintro e w' ⟨n, rfl, rfl⟩) | (go_at_call 19; refine (spec_PhTimes_x _ _ _ _ _).mono ?_; rintro e w' ⟨x, y, n, rfl, hx, rfl⟩))
          exact bodyPost_ret (v := .tuple #[.agg #[.float .f64 0, .float .f64 0], .bool false]) (by simp [results, Try.results21, go_sem]) rfl ⟨0, 0, by rw [over_no hno], by rw [over_no hno, rd_zero]; rfl, (by repeat (first | exact Below.refl _ _ | refine below_drewN ?_ _ | refine Below.drew ?_ | refine Below.setCell ?_ (by simp; try omega) _ | refine Below.alloc ?_ (by simp; try omega) _))⟩
      · have g0 := f0.out
        have g1 := f1.out
        have g2 := f2.out
        have hno : overOk (rd a, rd b) (rd c, rd d) = false := by simp [overOk, g0, g1, g2]
        go_enter Try.func21, Try.ntmps21
        go_wp2_with (first | (go_at_call 45; refine (spec_l4Finite _ _).mono ?_; rintro e w' ⟨n, rfl, rfl⟩) | (go_at_call 19; refine (spec_PhTimes_x _ _ _ _ _).mono ?_; rintro e w' ⟨x, y, n, rfl, hx, rfl⟩))
        exact bodyPost_ret (v := .tuple #[.agg #[.float .f64 0, .float .f64 0], .bool false]) (by simp [results, Try.results21, go_sem]) rfl ⟨0, 0, by rw [over_no hno], by rw [over_no hno, rd_zero]; rfl, (by repeat (first | exact Below.refl _ _ | refine below_drewN ?_ _ | refine Below.drew ?_ | refine Below.setCell ?_ (by simp; try omega) _ | refine Below.alloc ?_ (by simp; try omega) _))⟩
    · have g0 := f0.out
      have g1 := f1.out
      have hno : overOk (rd a, rd b) (rd c, rd d) = false := by simp [overOk, g0, g1]
      go_enter Try.func21, Try.ntmps21
      go_wp2_with (first | (go_at_call 45; refine (spec_l4Finite _ _).mono ?_; rintro e w' ⟨n, rfl, rfl⟩) | (go_at_call 19; refine (spec_PhTimes_x _ _ _ _ _).mono ?_; rintro e w' ⟨x, y, n, rfl, hx, rfl⟩))
      exact bodyPost_ret (v := .tuple #[.agg #[.float .f64 0, .float .f64 0], .bool false]) (by simp [results, Try.results21, go_sem]) rfl ⟨0, 0, by rw [over_no hno], by rw [over_no hno, rd_zero]; rfl, (by repeat (first | exact Below.refl _ _ | refine below_drewN ?_ _ | refine Below.drew ?_ | refine Below.setCell ?_ (by simp; try omega) _ | refine Below.alloc ?_ (by simp; try omega) _))⟩
  · have g0 := f0.out
    have hno : overOk (rd a, rd b) (rd c, rd d) = false := by simp [overOk, g0]
    go_enter Try.func21, Try.ntmps21
    go_wp2_with (first | (go_at_call 45; refine (spec_l4Finite _ _).mono ?_; rintro e w' ⟨n, rfl, rfl⟩) | (go_at_call 19; refine (spec_PhTimes_x _ _ _ _ _).mono ?_; rintro e w' ⟨x, y, n, rfl, hx, rfl⟩))
    exact bodyPost_ret (v := .tuple #[.agg #[.float .f64 0, .float .f64 0], .bool false]) (by simp [results, Try.results21, go_sem]) rfl ⟨0, 0, by rw [over_no hno], by rw [over_no hno, rd_zero]; rfl, (by repeat (first | exact Below.refl _ _ | refine below_drewN ?_ _ | refine Below.drew ?_ | refine Below.setCell ?_ (by simp; try omega) _ | refine Below.alloc ?_ (by simp; try omega) _))⟩
end Go.Proofs.Ytjcnoogloncbbaa
