import Derived.Test.YtfhkngmankmehaaC
import Derived.Deep.QuietTactic
import Derived.BigQuiet
namespace Go.Proofs.Ytfhkngmankmehaa
open Go.RowKit Go.Proofs Go.Own

theorem spec_l1In (x a b : Int) (w : World) :
    Calls Try.prog 37 #[.int .i64 x, .int .i64 a, .int .i64 b] w fun e w' => e = .returned (.bool (inB x a b)) ∧ w = w' := by
  go_enter Try.func37, Try.ntmps37
  go_wp2
  all_goals go_ret
  all_goals (simp [inB, *]; try omega)

theorem impl_isValue (x : Int) (w : World) :
    Calls Try.prog 47 #[.int .i64 x] w fun e w' => e = .returned (.bool (inB x (-1000000000) 1000000000)) ∧ w = w' := by
  go_enter Try.func47, Try.ntmps47
  go_wp2
  all_goals go_ret
  all_goals (simp [inB, *]; try omega)

theorem spec_l1All (v : Value) (xs : List Int) (a b : Int) (w : World) (h : Ints w v xs) :
    Calls Try.prog 34 #[v, .int .i64 a, .int .i64 b] w fun e w' => e = .returned (.bool (allIn xs a b 0)) ∧ w = w' := by
  obtain ⟨ad, cap, rfl, hl, hm, hc⟩ := h.open
  have hlen : xs.length ≤ 9223372036854775807 := by omega
  go_enter Try.func34, Try.ntmps34
  go_wp2
  go_loop [7] (fun i => ∃ k : Nat, k ≤ xs.length ∧ i = .int .i64 k ∧ Same (allIn xs a b 0) (allIn xs a b k)) (fun i => xs.length - (intOf i).toNat)
  case atStart => exact ⟨0, by omega, rfl, .rfl⟩
  case round =>
    obtain ⟨k, hk, rfl, hall⟩ := hrel
    by_cases hlt : k < xs.length
    · obtain ⟨bb, off, rfl, hbs, hcell⟩ := hc k hlt
      have hst := hid (allIn_step xs a b k hlt)
      clear hc
      go_wp2_with (go_at_call 37; refine (spec_l1In _ _ _ _).mono ?_; rintro e w' ⟨rfl, rfl⟩)
      · have hf : (!inB xs[k] a b) = true := by assumption
        go_ret
        exact ⟨ret_bool (by rw [hall.out, hst.out]; simp at hf; simp [hf]), rfl⟩
      · have hf : (!inB xs[k] a b) = false := by assumption
        go_round
        case rel => exact ⟨k+1, by omega, by go_num, by show _ = _; rw [hall.out, hst.out]; simp at hf; simp [hf]⟩
        case measure => simp [intOf]; omega
    · have hst := hid (allIn_end xs a b k hlt)
      go_wp2
      go_ret
      exact ⟨ret_bool (by rw [hall.out, hst.out]), rfl⟩

theorem impl_allValues (v : Value) (xs : List Int) (w : World) (h : Ints w v xs) :
    Calls Try.prog 35 #[v] w fun e w' => e = .returned (.bool (allIn xs (-1000000000) 1000000000 0)) ∧ w = w' := by
  obtain ⟨ad, cap, rfl, hl, hm, hc⟩ := h.open
  have hlen : xs.length ≤ 9223372036854775807 := by omega
  go_enter Try.func35, Try.ntmps35
  go_wp2
  go_loop [7] (fun i => ∃ k : Nat, k ≤ xs.length ∧ i = .int .i64 k ∧ Same (allIn xs (-1000000000) 1000000000 0) (allIn xs (-1000000000) 1000000000 k)) (fun i => xs.length - (intOf i).toNat)
  case atStart => exact ⟨0, by omega, rfl, .rfl⟩
  case round =>
    obtain ⟨k, hk, rfl, hall⟩ := hrel
    by_cases hlt : k < xs.length
    · obtain ⟨bb, off, rfl, hbs, hcell⟩ := hc k hlt
      have hst := hid (allIn_step xs (-1000000000) 1000000000 k hlt)
      clear hc
      go_wp2_with (go_at_call 47; refine (impl_isValue _ _).mono ?_; rintro e w' ⟨rfl, rfl⟩)
      · have hf : (!inB xs[k] (-1000000000) 1000000000) = true := by assumption
        go_ret
        exact ⟨ret_bool (by rw [hall.out, hst.out]; simp at hf; simp [hf]), rfl⟩
      · have hf : (!inB xs[k] (-1000000000) 1000000000) = false := by assumption
        go_round
        case rel => exact ⟨k+1, by omega, by go_num, by show _ = _; rw [hall.out, hst.out]; simp at hf; simp [hf]⟩
        case measure => simp [intOf]; omega
    · have hst := hid (allIn_end xs (-1000000000) 1000000000 k hlt)
      go_wp2
      go_ret
      exact ⟨ret_bool (by rw [hall.out, hst.out]), rfl⟩

def memOk (xs : List Int) : Bool := decide (xs.length ≤ 40) && allIn xs (-1000000000) 1000000000 0

theorem spec_MemoryOk (v : Value) (xs : List Int) (w : World) (h : Ints w v xs) :
    Calls Try.prog 9 #[v] w fun e w' => e = .returned (.bool (memOk xs)) ∧ w = w' := by
  have h0 := h
  obtain ⟨ad, cap, rfl, hl, hm, hc⟩ := h.open
  have hlen : xs.length ≤ 9223372036854775807 := by omega
  clear hc
  go_enter Try.func9, Try.ntmps9
  go_wp2_with (go_at_call 34; refine (spec_l1All _ xs _ _ _ h0).mono ?_; rintro e w' ⟨rfl, rfl⟩)
  all_goals go_ret
  all_goals (simp [memOk, *]; try omega)
theorem impl_MemoryOk (v : Value) (xs : List Int) (w : World) (h : Ints w v xs) :
    Calls Try.prog 11 #[v] w fun e w' => e = .returned (.bool (memOk xs)) ∧ w = w' := by
  have h0 := h
  obtain ⟨ad, cap, rfl, hl, hm, hc⟩ := h.open
  have hlen : xs.length ≤ 9223372036854775807 := by omega
  clear hc
  go_enter Try.func11, Try.ntmps11
  go_wp2_with (go_at_call 35; refine (impl_allValues _ xs _ h0).mono ?_; rintro e w' ⟨rfl, rfl⟩)
  all_goals go_ret
  all_goals (simp [memOk, *]; try omega)

theorem eqIntS_c (v u : Value) (xs ys : List Int) (w : World) (h : Ints w v xs) (g : Ints w u ys) :
    Calls Try.prog 12 #[v, u] w fun e w' => e = .returned (.bool (decide (xs = ys))) ∧ ∃ n, w' = w.drewN n := by
  obtain ⟨ad, cap, rfl, hl, hm, hc⟩ := h.open
  obtain ⟨ad2, cap2, rfl, hl2, hm2, hc2⟩ := g.open
  clear h g
  have hlen : xs.length ≤ 9223372036854775807 := by omega
  have hlen2 : ys.length ≤ 9223372036854775807 := by omega
  by_cases he : xs.length = ys.length
  case neg =>
    have hb : ((xs.length : Int) != (ys.length : Int)) = true := by simp; omega
    go_enter Try.func12, Try.ntmps12
    go_wp2
    go_ret
    exact ⟨ret_bool (by symm; rw [decide_eq_false_iff_not]; intro e; subst e; simp at he), 0, rfl⟩
  case pos =>
    have hb : ((xs.length : Int) != (ys.length : Int)) = false := by simp; omega
    have hef : decide (xs = ys) = eqFrom xs ys 0 := by simp [eqFrom]
    rw [hef]
    have He := hid he
    clear he hef
    go_enter Try.func12, Try.ntmps12
    go_wp2
    go_loopw [5] (fun i wr => ∃ k : Nat, k ≤ xs.length ∧ i = .int .i64 k ∧ Same (eqFrom xs ys 0) (eqFrom xs ys k) ∧ ∃ n, wr = w.drewN n) (fun i _ => xs.length - (intOf i).toNat)
    case atStart => exact ⟨0, by omega, rfl, .rfl, 0, rfl⟩
    case round =>
      obtain ⟨k, hk, rfl, hall, n, rfl⟩ := hrel
      by_cases hlt : k < xs.length
      · have hlt2 : k < ys.length := by have := He.out; omega
        obtain ⟨bb, off, rfl, hbs, hcell⟩ := hc k hlt
        obtain ⟨bb2, off2, rfl, hbs2, hcell2⟩ := hc2 k hlt2
        have hst := hid (eqFrom_step xs ys k hlt hlt2)
        clear hc hc2
        go_wp2
        go_quiet (fail)
        go_wp2
        · have hf : (xs[k] != ys[k]) = true := by assumption
          go_ret
          exact ⟨ret_bool (by rw [hall.out, hst.out]; simp at hf; simp [hf]), n + nq, World.drewN_drewN _ _ _⟩
        · have hf : (xs[k] != ys[k]) = false := by assumption
          go_roundw
          case rel => exact ⟨k+1, by omega, by go_num, by show _ = _; rw [hall.out, hst.out]; simp at hf; simp [hf], n + nq, rfl⟩
          case measure => simp [intOf]; omega
      · have hst := hid (eqFrom_end xs ys k hlt (by have := He.out; omega))
        go_wp2
        go_ret
        exact ⟨ret_bool (by rw [hall.out, hst.out]), n, rfl⟩
end Go.Proofs.Ytfhkngmankmehaa
