/- Chapter 5's model: WaysOf. -/
import Derived.Test.YtjcoakgdhiiiaaaS5
namespace Go.Proofs.Ytjcoakgdhiiiaaa
set_option maxRecDepth 100000
open Go.RowKit Go.Proofs Go.Own
set_option linter.unusedVariables false
set_option linter.unusedSimpArgs false
def waysIn : Nat → Nat → Nat → Nat → Option (Nat × Nat)
  | 0, _, ways, all => some (ways, all)
  | n+1, k, ways, all => if 9000000000000000000 / (all + 1) < ways then none else waysIn n (k+1) (ways * (all + 1) / k) (all + 1)
def waysFrom : List Int → Nat → Nat → Option Nat
  | [], ways, _ => some ways
  | c :: cs, ways, all => (waysIn c.toNat 1 ways all).bind fun p => if 1000000000000000 < p.1 then none else waysFrom cs p.1 p.2
def waysC (xs : List Int) : Option Nat := if xs.length ≤ 4 ∧ allIn xs 0 60 0 = true then waysFrom xs 1 0 else none
theorem waysFrom_step {xs : List Int} {i : Nat} (h : i < xs.length) (W A : Nat) : waysFrom (xs.drop i) W A = (waysIn xs[i].toNat 1 W A).bind fun p => if 1000000000000000 < p.1 then none else waysFrom (xs.drop (i+1)) p.1 p.2 := by
  rw [List.drop_eq_getElem_cons h]; rfl
set_option maxHeartbeats 8000000 in
theorem spec_WaysOf (v : Value) (xs : List Int) (w : World) (h : Ints w v xs) (hx : xs.length ≤ 1048576) :
    Calls Try.prog 29 #[v] w fun e w' => e = .returned (.tuple #[.int .i64 ((waysC xs).getD 0 : Nat), .bool (waysC xs).isSome]) ∧ w = w' := by
  have h0 := h
  obtain ⟨ad, cap, rfl, hl, hm, hc⟩ := h.open
  clear h
  have hlen : xs.length ≤ 9223372036854775807 := by omega
  have HC := hid hc
  clear hc
  by_cases a1 : ¬ ((xs.length : Int) ≤ 4)
  · have hno := hid (show waysC xs = none from if_neg (by omega))
    go_enter Try.func29, Try.ntmps29
    go_wp2_with (first | (go_at_call 36; refine (spec_l1All _ xs _ _ _ h0).mono ?_; rintro e w' ⟨rfl, rfl⟩))
    go_ret2
    exact ⟨by rw [hno.out]; rfl, rfl⟩
  have a1' := Decidable.not_not.1 a1
  cases a2 : allIn xs 0 60 0 with
  | false =>
    have hno := hid (show waysC xs = none from if_neg (by rw [a2]; simp))
    go_enter Try.func29, Try.ntmps29
    go_wp2_with (first | (go_at_call 36; refine (spec_l1All _ xs _ _ _ h0).mono ?_; rintro e w' ⟨rfl, rfl⟩))
    go_ret2
    exact ⟨by rw [hno.out]; rfl, rfl⟩
  | true =>
  have hyes := hid (show waysC xs = waysFrom xs 1 0 from if_pos ⟨by omega, a2⟩)
  have hall := hid (show ∀ k, (hk : k < xs.length) → 0 ≤ xs[k] ∧ xs[k] ≤ 60 from fun k hk => by
    have h9 := a2
    simp only [allIn, List.drop_zero, List.all_eq_true] at h9
    have h8 := h9 xs[k] (List.getElem_mem hk)
    simpa [inB] using h8)
  go_enter Try.func29, Try.ntmps29
  go_wp2_with (first | (go_at_call 36; refine (spec_l1All _ xs _ _ _ h0).mono ?_; rintro e w' ⟨rfl, rfl⟩))
  go_loop [4, 5, 6] (fun a b i => ∃ (k W A : Nat), k ≤ xs.length ∧ i = .int .i64 k ∧ a = .int .i64 W ∧ b = .int .i64 A ∧ W ≤ 1000000000000000 ∧ A ≤ 60 * k ∧ Same (waysFrom (xs.drop k) W A) (waysFrom xs 1 0)) (fun _ _ i => xs.length - (intOf i).toNat)
  case atStart => exact ⟨0, 1, 0, by omega, rfl, rfl, rfl, by omega, by omega, .rfl⟩
  case round =>
    obtain ⟨k, W, A, hk, rfl, rfl, rfl, hW, hA, hS⟩ := hrel
    by_cases hlt : k < xs.length
    · obtain ⟨bb, off, rfl, hbs, c0⟩ := HC.out k hlt
      have hx0 := hall.out k hlt
      obtain ⟨M, hM⟩ := Int.eq_ofNat_of_zero_le hx0.1
      rw [hM] at c0
      have hM60 : M ≤ 60 := by omega
      have Hst := hid (show ((waysIn M 1 W A).bind fun p => if 1000000000000000 < p.1 then none else waysFrom (xs.drop (k+1)) p.1 p.2) = waysFrom xs 1 0 by
        have h9 := hS.out
        rw [waysFrom_step hlt, hM] at h9
        exact h9)
      have hA0 : A ≤ 240 := by omega
      clear HC hall
      go_wp2
      go_loop [4, 5, 7] (fun a b i => ∃ (j W2 A2 : Nat), 1 ≤ j ∧ j ≤ M + 1 ∧ i = .int .i64 j ∧ a = .int .i64 W2 ∧ b = .int .i64 A2 ∧ W2 ≤ 9000000000000000000 ∧ A2 = A + (j - 1) ∧ Same (waysIn (M + 1 - j) j W2 A2) (waysIn M 1 W A)) (fun _ _ i => M + 1 - (intOf i).toNat)
      case atStart => exact ⟨1, W, A, by omega, by omega, rfl, rfl, rfl, by omega, by omega, .rfl⟩
      case round =>
        obtain ⟨j, W2, A2, hj1, hj, rfl, rfl, rfl, hW2, hA2, hI⟩ := hrel
        by_cases hj2 : (j : Int) ≤ (M : Int)
        · have Hin := hid (show (if 9000000000000000000 / (A2 + 1) < W2 then none else waysIn (M + 1 - (j+1)) (j+1) (W2 * (A2 + 1) / j) (A2 + 1)) = waysIn M 1 W A by
            have h9 := hI.out
            rw [show M + 1 - j = (M + 1 - (j+1)) + 1 by omega] at h9
            exact h9)
          have p1 : ¬ ((A2 : Int) + 1 = 0) := by omega
          have p2 : (0 : Int) ≤ (A2 : Int) + 1 := by omega
          have p3 : ¬ ((j : Int) = 0) := by omega
          have p4 : A2 ≤ 400 := by omega
          have HA := hid hA2
          clear hA2
          have HCa := hid (show ((9000000000000000000 / (A2 + 1) : Nat) : Int) = 9000000000000000000 / ((A2 : Int) + 1) by simp)
          by_cases hq : (9000000000000000000 : Int) / ((A2 : Int) + 1) < (W2 : Int)
          · have hN : 9000000000000000000 / (A2 + 1) < W2 := Int.ofNat_lt.1 (by rw [HCa.out]; exact hq)
            have Hn := hid (show waysIn M 1 W A = none by rw [← Hin.out, if_pos hN])
            have hT := hid (show waysC xs = none by rw [hyes.out, ← Hst.out, Hn.out]; rfl)
            clear hN
            go_wp2
            go_ret2
            exact ⟨by rw [hT.out]; rfl, rfl⟩
          · have hN : W2 ≤ 9000000000000000000 / (A2 + 1) := Int.ofNat_le.1 (by rw [HCa.out]; exact Int.not_lt.1 hq)
            obtain ⟨P, hP⟩ : ∃ P, P = W2 * (A2 + 1) := ⟨_, rfl⟩
            have hP2 : P ≤ 9000000000000000000 := by rw [hP]; exact Nat.le_trans (Nat.mul_le_mul_right _ hN) (Nat.div_mul_le_self _ _)
            have hmul : (W2 : Int) * ((A2 : Int) + 1) = (P : Int) := by rw [hP]; simp
            obtain ⟨D, hD⟩ : ∃ D, D = P / j := ⟨_, rfl⟩
            have hdiv : (P : Int).tdiv (j : Int) = (D : Int) := by rw [hD]; exact (Int.ofNat_tdiv P j).symm
            have hD2 : D ≤ P := by rw [hD]; exact Nat.div_le_self _ _
            have Hn := hid (show waysIn (M + 1 - (j+1)) (j+1) D (A2 + 1) = waysIn M 1 W A by rw [← Hin.out, if_neg (Nat.not_lt.2 hN), hD, hP])
            clear hD hP hN
            go_wp2
            go_round
            case rel => exact ⟨j+1, D, A2+1, by omega, by omega, by go_num, by go_num, by go_num, by omega, by have := HA.out; omega, Same.mk Hn.out⟩
            case measure => simp [intOf]; omega
        · have hj3 : j = M + 1 := by omega
          have Hn := hid (show waysIn M 1 W A = some (W2, A2) by have h9 := hI.out; rw [show M + 1 - j = 0 by omega] at h9; exact h9.symm)
          have p4 : A2 ≤ A + 60 := by omega
          clear hI hA2 hj3
          by_cases hbig : (1000000000000000 : Int) < (W2 : Int)
          · have hT := hid (show waysC xs = none by rw [hyes.out, ← Hst.out, Hn.out]; exact if_pos (by omega))
            go_wp2
            go_ret2
            exact ⟨by rw [hT.out]; rfl, rfl⟩
          · have Ho := hid (show waysFrom (xs.drop (k+1)) W2 A2 = waysFrom xs 1 0 by rw [← Hst.out, Hn.out]; exact (if_neg (by omega)).symm)
            go_wp2
            go_round
            case rel => exact ⟨k+1, W2, A2, by omega, by go_num, rfl, rfl, by omega, by omega, Same.mk Ho.out⟩
            case measure => simp [intOf]; omega
    · have hst := hS.out
      rw [List.drop_eq_nil_of_le (by omega)] at hst
      have hT := hid (show waysC xs = some W by rw [hyes.out]; exact hst.symm)
      clear hst
      go_wp2
      go_ret2
      exact ⟨by rw [hT.out]; rfl, rfl⟩
end Go.Proofs.Ytjcoakgdhiiiaaa
