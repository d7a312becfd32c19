/- Chapter 5's model: ScheduleOk, Left5. -/
import Derived.Test.YtjcoakgdhiiiaaaDoorF5
import Derived.Test.YtjcoakgdhiiiaaaDoorS0
namespace Go.Proofs.YtjcoakgdhiiiaaaDoor
set_option maxRecDepth 100000
open Go.RowKit Go.Proofs Go.Own
set_option linter.unusedVariables false
set_option linter.unusedSimpArgs false

set_option maxHeartbeats 4000000 in
theorem spec_ScheduleOk (v : Value) (xs : List Run) (w : World) (h : Runs w v xs) (hx : xs.length ≤ 1048576) :
    Calls Tryd.prog 14 #[v] w fun e w' => e = .returned (.bool (schedOk xs)) ∧ w = w' := by
  obtain ⟨ad, cap, rfl, hl, hm, hc⟩ := h.open
  clear h
  have hlen : xs.length ≤ 9223372036854775807 := by omega
  go_enter Tryd.func14, Tryd.ntmps14
  go_wp2
  go_loop [3, 4] (fun s i => ∃ (k : Nat) (t : Int), k ≤ xs.length ∧ i = .int .i64 k ∧ s = .int .i64 t ∧ 0 ≤ t ∧ t ≤ 2000 ∧ Same (okFrom (xs.drop k) t) (okFrom xs 0)) (fun _ i => xs.length - (intOf i).toNat)
  case atStart => exact ⟨0, 0, by omega, rfl, rfl, by omega, by omega, .rfl⟩
  case round =>
    obtain ⟨k, t, hk, rfl, rfl, ht0, ht1, hS⟩ := hrel
    by_cases hlt : k < xs.length
    · obtain ⟨bb, off, rfl, hbs, c0, c1⟩ := hc k hlt
      have hst := hS.out
      rw [okFrom_step hlt] at hst
      have hst2 := hid hst
      clear hc hst
      by_cases h1 : inB xs[k].thread_ 0 3 = true
      · by_cases h2 : inB xs[k].many_ 1 500 = true
        · by_cases h3 : t ≤ 1500
          · have h4 : 1 ≤ xs[k].many_ ∧ xs[k].many_ ≤ 500 := by simpa [inB] using h2
            have h5 := h4.1
            have h6 := h4.2
            have hr : runOk xs[k] = true := by simp [runOk, h1, h2]
            clear h4
            go_wp2_with (go_at_call 24; refine (spec_l1In _ _ _ _).mono ?_; rintro e w' ⟨rfl, rfl⟩)
            go_round
            case rel => exact ⟨k+1, t + xs[k].many_, by omega, by go_num, by go_num, by omega, by omega, Same.mk (by have := hst2.out; rw [if_pos hr, if_pos h3] at this; exact this)⟩
            case measure => simp [intOf]; omega
          · have hr : runOk xs[k] = true := by simp [runOk, h1, h2]
            have h3' : (1500 : Int) < t := by omega
            go_wp2_with (go_at_call 24; refine (spec_l1In _ _ _ _).mono ?_; rintro e w' ⟨rfl, rfl⟩)
            go_ret
            exact ⟨ret_bool (by have := hst2.out; rw [if_pos hr, if_neg (show ¬ t ≤ 1500 by omega)] at this; simp [schedOk, ← this]), rfl⟩
        · have h2' : inB xs[k].many_ 1 500 = false := by simpa using h2
          have hr : ¬ runOk xs[k] = true := by simp [runOk, h1, h2']
          go_wp2_with (go_at_call 24; refine (spec_l1In _ _ _ _).mono ?_; rintro e w' ⟨rfl, rfl⟩)
          go_ret
          exact ⟨ret_bool (by have := hst2.out; rw [if_neg hr] at this; simp [schedOk, ← this]), rfl⟩
      · have h1' : inB xs[k].thread_ 0 3 = false := by simpa using h1
        have hr : ¬ runOk xs[k] = true := by simp [runOk, h1']
        go_wp2_with (go_at_call 24; refine (spec_l1In _ _ _ _).mono ?_; rintro e w' ⟨rfl, rfl⟩)
        go_ret
        exact ⟨ret_bool (by have := hst2.out; rw [if_neg hr] at this; simp [schedOk, ← this]), rfl⟩
    · have hst := hS.out
      rw [List.drop_eq_nil_of_le (by omega)] at hst
      have hst2 := hid (show decide (t ≤ 1500) = okFrom xs 0 from hst)
      clear hst
      by_cases a1 : (xs.length : Int) ≤ 60
      · by_cases a2 : t ≤ 1500
        · go_wp2
          go_ret
          exact ⟨ret_bool (by rw [schedOk, ← hst2.out, decide_eq_true (show xs.length ≤ 60 by omega)]; simp [a2]), rfl⟩
        · go_wp2
          go_ret
          exact ⟨ret_bool (by rw [schedOk, ← hst2.out, decide_eq_false (show ¬ t ≤ 1500 by omega)]; simp), rfl⟩
      · go_wp2
        go_ret
        exact ⟨ret_bool (by rw [schedOk, decide_eq_false (show ¬ xs.length ≤ 60 by omega)]; simp), rfl⟩
end Go.Proofs.YtjcoakgdhiiiaaaDoor
