/- Chapter 5's model: ScheduleOk, Left5. -/
import Derived.Test.YtjcoakgdhiiiaaaF5
import Derived.Test.YtjcoakgdhiiiaaaS0
namespace Go.Proofs.Ytjcoakgdhiiiaaa
set_option maxRecDepth 100000
open Go.RowKit Go.Proofs Go.Own
set_option linter.unusedVariables false
set_option linter.unusedSimpArgs false
theorem spec_l1All (v : Value) (xs : List Int) (a b : Int) (w : World) (h : Ints w v xs) :
    Calls Try.prog 36 #[v, .int .i64 a, .int .i64 b] w fun e w' => e = .returned (.bool (allIn xs a b 0)) ∧ w = w' := by
  obtain ⟨ad, cap, rfl, hl, hm, hc⟩ := h.open
  have hlen : xs.length ≤ 9223372036854775807 := by omega
  go_enter Try.func36, Try.ntmps36
  go_wp2
  go_loop [7] (fun i => ∃ k : Nat, k ≤ xs.length ∧ i = .int .i64 k ∧ Same (allIn xs a b 0) (allIn xs a b k)) (fun i => xs.length - (intOf i).toNat)
  case atStart => exact ⟨0, by omega, rfl, .rfl⟩
  case round =>
    obtain ⟨k, hk, rfl, hall⟩ := hrel
    by_cases hlt : k < xs.length
    · obtain ⟨bb, off, rfl, hbs, hcell⟩ := hc k hlt
      have hst := hid (allIn_step xs a b k hlt)
      clear hc
      go_wp2_with (go_at_call 37; refine (spec_l1In _ _ _ _).mono ?_; rintro e w' ⟨rfl, rfl⟩)
      · have hf : (!inB xs[k] a b) = true := by assumption
        go_ret
        exact ⟨ret_bool (by rw [hall.out, hst.out]; simp at hf; simp [hf]), rfl⟩
      · have hf : (!inB xs[k] a b) = false := by assumption
        go_round
        case rel => exact ⟨k+1, by omega, by go_num, .mk (by rw [hall.out, hst.out]; simp at hf; simp [hf])⟩
        case measure => simp [intOf]; omega
    · have hst := hid (allIn_end xs a b k hlt)
      go_wp2
      go_ret
      exact ⟨ret_bool (by rw [hall.out, hst.out]), rfl⟩

set_option maxHeartbeats 4000000 in
theorem spec_ScheduleOk (v : Value) (xs : List Run) (w : World) (h : Runs w v xs) (hx : xs.length ≤ 1048576) :
    Calls Try.prog 17 #[v] w fun e w' => e = .returned (.bool (schedOk xs)) ∧ w = w' := by
  obtain ⟨ad, cap, rfl, hl, hm, hc⟩ := h.open
  clear h
  have hlen : xs.length ≤ 9223372036854775807 := by omega
  go_enter Try.func17, Try.ntmps17
  go_wp2
  go_loop [3, 4] (fun s i => ∃ (k : Nat) (t : Int), k ≤ xs.length ∧ i = .int .i64 k ∧ s = .int .i64 t ∧ 0 ≤ t ∧ t ≤ 2000 ∧ Same (okFrom (xs.drop k) t) (okFrom xs 0)) (fun _ i => xs.length - (intOf i).toNat)
  case atStart => exact ⟨0, 0, by omega, rfl, rfl, by omega, by omega, .rfl⟩
  case round =>
    obtain ⟨k, t, hk, rfl, rfl, ht0, ht1, hS⟩ := hrel
    by_cases hlt : k < xs.length
    · obtain ⟨bb, off, rfl, hbs, c0, c1⟩ := hc k hlt
      have hst := hS.out
      rw [okFrom_step hlt] at hst
      have hst2 := hid hst
      clear hc hst
      by_cases h1 : inB xs[k].thread_ 0 3 = true
      · by_cases h2 : inB xs[k].many_ 1 500 = true
        · by_cases h3 : t ≤ 1500
          · have h4 : 1 ≤ xs[k].many_ ∧ xs[k].many_ ≤ 500 := by simpa [inB] using h2
            have h5 := h4.1
            have h6 := h4.2
            have hr : runOk xs[k] = true := by simp [runOk, h1, h2]
            clear h4
            go_wp2_with (go_at_call 37; refine (spec_l1In _ _ _ _).mono ?_; rintro e w' ⟨rfl, rfl⟩)
            go_round
            case rel => exact ⟨k+1, t + xs[k].many_, by omega, by go_num, by go_num, by omega, by omega, Same.mk (by have := hst2.out; rw [if_pos hr, if_pos h3] at this; exact this)⟩
            case measure => simp [intOf]; omega
          · have hr : runOk xs[k] = true := by simp [runOk, h1, h2]
            have h3' : (1500 : Int) < t := by omega
            go_wp2_with (go_at_call 37; refine (spec_l1In _ _ _ _).mono ?_; rintro e w' ⟨rfl, rfl⟩)
            go_ret
            exact ⟨ret_bool (by have := hst2.out; rw [if_pos hr, if_neg (show ¬ t ≤ 1500 by omega)] at this; simp [schedOk, ← this]), rfl⟩
        · have h2' : inB xs[k].many_ 1 500 = false := by simpa using h2
          have hr : ¬ runOk xs[k] = true := by simp [runOk, h1, h2']
          go_wp2_with (go_at_call 37; refine (spec_l1In _ _ _ _).mono ?_; rintro e w' ⟨rfl, rfl⟩)
          go_ret
          exact ⟨ret_bool (by have := hst2.out; rw [if_neg hr] at this; simp [schedOk, ← this]), rfl⟩
      · have h1' : inB xs[k].thread_ 0 3 = false := by simpa using h1
        have hr : ¬ runOk xs[k] = true := by simp [runOk, h1']
        go_wp2_with (go_at_call 37; refine (spec_l1In _ _ _ _).mono ?_; rintro e w' ⟨rfl, rfl⟩)
        go_ret
        exact ⟨ret_bool (by have := hst2.out; rw [if_neg hr] at this; simp [schedOk, ← this]), rfl⟩
    · have hst := hS.out
      rw [List.drop_eq_nil_of_le (by omega)] at hst
      have hst2 := hid (show decide (t ≤ 1500) = okFrom xs 0 from hst)
      clear hst
      by_cases a1 : (xs.length : Int) ≤ 60
      · by_cases a2 : t ≤ 1500
        · go_wp2
          go_ret
          exact ⟨ret_bool (by rw [schedOk, ← hst2.out, decide_eq_true (show xs.length ≤ 60 by omega)]; simp [a2]), rfl⟩
        · go_wp2
          go_ret
          exact ⟨ret_bool (by rw [schedOk, ← hst2.out, decide_eq_false (show ¬ t ≤ 1500 by omega)]; simp), rfl⟩
      · go_wp2
        go_ret
        exact ⟨ret_bool (by rw [schedOk, decide_eq_false (show ¬ xs.length ≤ 60 by omega)]; simp), rfl⟩
set_option maxHeartbeats 4000000 in
theorem spec_Left5 (v : Value) (xs : List Int) (t f : Int) (w : World) (h : Ints w v xs) (hx : xs.length ≤ 1048576) :
    Calls Try.prog 28 #[v, .int .i64 t, .int .i64 f] w fun e w' => e = .returned (.int .i64 (leftC xs t f)) ∧ w = w' := by
  obtain ⟨ad, cap, rfl, hl, hm, hc⟩ := h.open
  clear h
  have hlen : xs.length ≤ 9223372036854775807 := by omega
  by_cases h1 : ¬ (0 ≤ f ∧ f ≤ (xs.length : Int))
  · have hq : inB f 0 xs.length = false := by simp [inB]; omega
    have hno := hid (show leftC xs t f = -1 from if_neg h1)
    clear hc
    go_enter Try.func28, Try.ntmps28
    go_wp2_with (go_at_call 37; refine (spec_l1In _ _ _ _).mono ?_; rintro e w' ⟨rfl, rfl⟩)
    go_ret
    exact ⟨ret_int hno.out.symm, rfl⟩
  have h2 := Decidable.not_not.1 h1
  have hq : inB f 0 xs.length = true := by simp [inB, h2]
  have hyes := hid (show leftC xs t f = countT t (xs.drop f.toNat) from if_pos h2)
  obtain ⟨F, rfl⟩ := Int.eq_ofNat_of_zero_le h2.1
  have hF : F ≤ xs.length := by omega
  clear h1 h2
  have hc2 := hid hc
  clear hc
  go_enter Try.func28, Try.ntmps28
  go_wp2_with (go_at_call 37; refine (spec_l1In _ _ _ _).mono ?_; rintro e w' ⟨rfl, rfl⟩)
  go_loop [7, 8] (fun n i => ∃ (k m : Nat), k ≤ xs.length ∧ i = .int .i64 k ∧ n = .int .i64 m ∧ m ≤ k ∧ Same (m + countT t (xs.drop k)) (countT t (xs.drop F))) (fun _ i => xs.length - (intOf i).toNat)
  case atStart => exact ⟨F, 0, hF, rfl, rfl, by omega, Same.mk (by omega)⟩
  case round =>
    obtain ⟨k, m, hk, rfl, rfl, hm2, hS⟩ := hrel
    by_cases hlt : k < xs.length
    · obtain ⟨bb, off, rfl, hbs, c0⟩ := hc2.out k hlt
      have hst := hid ((countT_step hlt t) ▸ hS.out)
      clear hc2
      by_cases he : xs[k] = t
      · go_wp2
        go_round
        case rel => exact ⟨k+1, m+1, by omega, by go_num, by go_num, by omega, Same.mk (by have := hst.out; rw [if_pos he] at this; omega)⟩
        case measure => simp [intOf]; omega
      · go_wp2
        go_round
        case rel => exact ⟨k+1, m, by omega, by go_num, rfl, by omega, Same.mk (by have := hst.out; rw [if_neg he] at this; omega)⟩
        case measure => simp [intOf]; omega
    · have hst := hid hS.out
      go_wp2
      go_ret
      exact ⟨ret_int (by have := hst.out; rw [List.drop_eq_nil_of_le (by omega : xs.length ≤ k)] at this; rw [hyes.out]; simp only [countT, Int.toNat_natCast] at this ⊢; omega), rfl⟩
end Go.Proofs.Ytjcoakgdhiiiaaa
