/- Chapter 5's program: WaysOf. -/
import Derived.Test.YtjcoakgdhiiiaaaS5e
import Derived.Test.YtjcoakgdhiiiaaaBx
namespace Go.Proofs.Ytjcoakgdhiiiaaa
set_option maxRecDepth 100000
open Go.RowKit Go.Proofs Go.Own
set_option linter.unusedVariables false
set_option linter.unusedSimpArgs false
/-- The program's own way: it stops as soon as there are too many. -/
def wpIn : Nat → Nat → Nat → Nat → Option (Nat × Nat)
  | 0, _, ways, all => some (ways, all)
  | n+1, k, ways, all => if 1000000000000000 < ways * (all + 1) / k then none else wpIn n (k+1) (ways * (all + 1) / k) (all + 1)
def wpFrom : List Int → Nat → Nat → Option Nat
  | [], ways, _ => some ways
  | c :: cs, ways, all => if 0 ≤ c ∧ c ≤ 60 then (wpIn c.toNat 1 ways all).bind fun p => wpFrom cs p.1 p.2 else none
theorem wpFrom_step {xs : List Int} {i : Nat} (h : i < xs.length) (W A : Nat) : wpFrom (xs.drop i) W A = if 0 ≤ xs[i] ∧ xs[i] ≤ 60 then (wpIn xs[i].toNat 1 W A).bind fun p => wpFrom (xs.drop (i+1)) p.1 p.2 else none := by
  rw [List.drop_eq_getElem_cons h]; rfl
/-- They never become fewer, where no more than all + 1 are chosen. -/
theorem grow {W A k : Nat} (hk : 1 ≤ k) (h : k ≤ A + 1) : W ≤ W * (A + 1) / k := by
  rw [Nat.le_div_iff_mul_le (by omega)]
  exact Nat.mul_le_mul_left _ h
theorem waysIn_ge : ∀ (n k W A : Nat) (p : Nat × Nat), 1 ≤ k → k ≤ A + 1 → waysIn n k W A = some p → W ≤ p.1
  | 0, k, W, A, p, _, _, h => by cases h; exact Nat.le_refl _
  | n+1, k, W, A, p, h1, h2, h => by
    unfold waysIn at h
    split at h
    · cases h
    · exact Nat.le_trans (grow h1 h2) (waysIn_ge n (k+1) _ _ p (by omega) (by omega) h)
/-- What is too many stays too many, or ends the count. -/
theorem waysIn_big (n k W A : Nat) (h1 : 1 ≤ k) (h2 : k ≤ A + 1) (hW : 1000000000000000 < W) : ((waysIn n k W A).bind fun p => if 1000000000000000 < p.1 then none else some p) = none := by
  cases h : waysIn n k W A with
  | none => rfl
  | some p => exact if_pos (Nat.lt_of_lt_of_le hW (waysIn_ge n k W A p h1 h2 h))
theorem wpIn_eq : ∀ (n k W A : Nat), 1 ≤ k → k ≤ A + 1 → A + n ≤ 400 → W ≤ 1000000000000000 → wpIn n k W A = ((waysIn n k W A).bind fun p => if 1000000000000000 < p.1 then none else some p)
  | 0, k, W, A, _, _, _, hW => by
    show some (W, A) = if 1000000000000000 < W then none else some (W, A)
    rw [if_neg (by omega)]
  | n+1, k, W, A, h1, h2, hA, hW => by
    have hno : ¬ 9000000000000000000 / (A + 1) < W := by
      have : W ≤ 9000000000000000000 / (A + 1) := by
        rw [Nat.le_div_iff_mul_le (by omega)]
        exact Nat.le_trans (Nat.mul_le_mul hW (show A + 1 ≤ 400 by omega)) (by decide)
      omega
    unfold wpIn waysIn
    rw [if_neg hno]
    split
    · rename_i hb
      exact (waysIn_big n (k+1) _ (A+1) (by omega) (by omega) hb).symm
    · rename_i hb
      exact wpIn_eq n (k+1) _ (A+1) (by omega) (by omega) (by omega) (by omega)
theorem waysIn_all : ∀ (n k W A : Nat) (p : Nat × Nat), waysIn n k W A = some p → p.2 = A + n
  | 0, k, W, A, p, h => by cases h; rfl
  | n+1, k, W, A, p, h => by
    unfold waysIn at h
    split at h
    · cases h
    · have := waysIn_all n (k+1) _ _ p h; omega
theorem wpFrom_eq : ∀ (xs : List Int) (W A : Nat), (∀ x ∈ xs, 0 ≤ x ∧ x ≤ 60) → A + 60 * xs.length ≤ 400 → W ≤ 1000000000000000 → wpFrom xs W A = waysFrom xs W A
  | [], W, A, _, _, _ => rfl
  | c :: cs, W, A, h, hA, hW => by
    have hc := h c (List.mem_cons_self ..)
    simp only [List.length_cons] at hA
    unfold wpFrom waysFrom
    rw [if_pos hc, wpIn_eq c.toNat 1 W A (by omega) (by omega) (by omega) hW]
    cases hw : waysIn c.toNat 1 W A with
    | none => rfl
    | some p =>
      have hp := waysIn_all _ _ _ _ _ hw
      show ((if 1000000000000000 < p.1 then none else some p).bind fun p => wpFrom cs p.1 p.2) = if 1000000000000000 < p.1 then none else waysFrom cs p.1 p.2
      split
      · rfl
      · exact wpFrom_eq cs p.1 p.2 (fun x hx => h x (List.mem_cons_of_mem _ hx)) (by omega) (by omega)
theorem wpFrom_bad : ∀ (xs : List Int) (W A : Nat), (∃ x ∈ xs, ¬ (0 ≤ x ∧ x ≤ 60)) → wpFrom xs W A = none
  | [], W, A, h => by obtain ⟨x, hx, _⟩ := h; cases hx
  | c :: cs, W, A, h => by
    unfold wpFrom
    split
    · rename_i hc
      cases hw : wpIn c.toNat 1 W A with
      | none => rfl
      | some p =>
        obtain ⟨x, hx, hb⟩ := h
        rcases List.mem_cons.1 hx with e | hx
        · subst e; exact absurd hc hb
        · exact wpFrom_bad cs p.1 p.2 ⟨x, hx, hb⟩
    · rfl
theorem waysC_wp {xs : List Int} (h4 : xs.length ≤ 4) : waysC xs = wpFrom xs 1 0 := by
  unfold waysC
  by_cases ha : ∀ x ∈ xs, 0 ≤ x ∧ x ≤ 60
  · rw [if_pos ⟨h4, by simp only [allIn, List.drop_zero, List.all_eq_true]; intro x hx; simpa [inB] using ha x hx⟩, wpFrom_eq xs 1 0 ha (by omega) (by decide)]
  · rw [if_neg, wpFrom_bad]
    · apply Classical.byContradiction
      intro hn
      apply ha
      intro x hx
      apply Classical.byContradiction
      intro hb
      exact hn ⟨x, hx, hb⟩
    · rintro ⟨_, h⟩
      apply ha
      simp only [allIn, List.drop_zero, List.all_eq_true] at h
      intro x hx
      simpa [inB] using h x hx
set_option maxHeartbeats 8000000 in
theorem impl_WaysOf (v : Value) (xs : List Int) (w : World) (h : Ints w v xs) (hx : xs.length ≤ 1048576) :
    Calls Try.prog 14 #[v] w fun e w' => e = .returned (.tuple #[.int .i64 ((waysC xs).getD 0 : Nat), .bool (waysC xs).isSome]) ∧ Below w.heap.size w w' := by
  obtain ⟨ad, cap, rfl, hl, hm, hc⟩ := h.open
  clear h
  have hlen : xs.length ≤ 9223372036854775807 := by omega
  have HC := hid hc
  clear hc
  by_cases a1 : (4 : Int) < (xs.length : Int)
  · have hno := hid (show waysC xs = none from if_neg (by omega))
    go_enter Try.func14, Try.ntmps14
    go_wp2
    go_ret2
    exact ⟨by rw [hno.out]; rfl, Below.refl _ _⟩
  have h4 : xs.length ≤ 4 := by omega
  have hyes := hid (waysC_wp h4)
  go_enter Try.func14, Try.ntmps14
  go_wp2
  go_loop [4, 5, 14] (fun a b i => ∃ (k W A : Nat), k ≤ xs.length ∧ i = .int .i64 k ∧ a = .int .i64 W ∧ b = .int .i64 A ∧ W ≤ 1000000000000000 ∧ A ≤ 60 * k ∧ Same (wpFrom (xs.drop k) W A) (wpFrom xs 1 0)) (fun _ _ i => xs.length - (intOf i).toNat)
  case atStart => exact ⟨0, 1, 0, by omega, rfl, rfl, rfl, by omega, by omega, .rfl⟩
  case round =>
    obtain ⟨k, W, A, hk, rfl, rfl, rfl, hW, hA, hS⟩ := hrel
    by_cases hlt : k < xs.length
    · obtain ⟨bb, off, rfl, hbs, c0⟩ := HC.out k hlt
      have Hst0 := hid (wpFrom_step hlt W A ▸ hS.out)
      have hA0 : A ≤ 240 := by omega
      clear HC hS
      by_cases hn : xs[k] < 0
      · have hT := hid (show waysC xs = none by rw [hyes.out, ← Hst0.out, if_neg (by omega)])
        go_wp2
        go_ret2
        exact ⟨by rw [hT.out]; rfl, Below.refl _ _⟩
      by_cases hn2 : 60 < xs[k]
      · have hT := hid (show waysC xs = none by rw [hyes.out, ← Hst0.out, if_neg (by omega)])
        go_wp2
        go_ret2
        exact ⟨by rw [hT.out]; rfl, Below.refl _ _⟩
      obtain ⟨M, hM⟩ := Int.eq_ofNat_of_zero_le (show 0 ≤ xs[k] by omega)
      rw [hM] at c0
      have hM60 : M ≤ 60 := by omega
      have Hst := hid (show ((wpIn M 1 W A).bind fun p => wpFrom (xs.drop (k+1)) p.1 p.2) = wpFrom xs 1 0 by
        have h9 := Hst0.out
        rw [if_pos (by omega), hM] at h9
        exact h9)
      clear hn hn2 Hst0
      have q0 : ¬ ((M : Int) < 0) := by omega
      have q1 : ¬ (60 < (M : Int)) := by omega
      go_wp2
      go_loop [4, 5, 8] (fun a b i => ∃ (j W2 A2 : Nat), 1 ≤ j ∧ j ≤ M + 1 ∧ i = .int .i64 j ∧ a = .int .i64 W2 ∧ b = .int .i64 A2 ∧ W2 ≤ 1000000000000000 ∧ A2 = A + (j - 1) ∧ Same (wpIn (M + 1 - j) j W2 A2) (wpIn M 1 W A)) (fun _ _ i => M + 1 - (intOf i).toNat)
      case atStart => exact ⟨1, W, A, by omega, by omega, rfl, rfl, rfl, by omega, by omega, .rfl⟩
      case round =>
        obtain ⟨j, W2, A2, hj1, hj, rfl, rfl, rfl, hW2, hA2, hI⟩ := hrel
        by_cases hj2 : (j : Int) ≤ (M : Int)
        · have Hin := hid (show (if 1000000000000000 < W2 * (A2 + 1) / j then none else wpIn (M + 1 - (j+1)) (j+1) (W2 * (A2 + 1) / j) (A2 + 1)) = wpIn M 1 W A by
            have h9 := hI.out
            rw [show M + 1 - j = (M + 1 - (j+1)) + 1 by omega] at h9
            exact h9)
          have p3 : ¬ ((j : Int) = 0) := by omega
          have p4 : A2 ≤ 400 := by omega
          have HA := hid hA2
          clear hA2 hI
          obtain ⟨P, hP⟩ : ∃ P, P = W2 * (A2 + 1) := ⟨_, rfl⟩
          have hP2 : P ≤ 1000000000000000000 := by rw [hP]; exact Nat.le_trans (Nat.mul_le_mul hW2 (show A2 + 1 ≤ 401 by omega)) (by decide)
          have hmul : (W2 : Int) * ((A2 : Int) + 1) = (P : Int) := by rw [hP]; simp
          obtain ⟨D, hD⟩ : ∃ D, D = P / j := ⟨_, rfl⟩
          have hdiv : (P : Int).tdiv (j : Int) = (D : Int) := by rw [hD]; exact (Int.ofNat_tdiv P j).symm
          have hD2 : D ≤ P := by rw [hD]; exact Nat.div_le_self _ _
          have Hin2 := hid (show (if 1000000000000000 < D then none else wpIn (M + 1 - (j+1)) (j+1) D (A2 + 1)) = wpIn M 1 W A by have h9 := Hin.out; rw [← hP, ← hD] at h9; exact h9)
          clear hD hP Hin
          by_cases hq : (1000000000000000 : Int) < (D : Int)
          · have hT := hid (show waysC xs = none by rw [hyes.out, ← Hst.out, ← Hin2.out, if_pos (by omega)]; rfl)
            go_wp2
            go_ret2
            exact ⟨by rw [hT.out]; rfl, Below.refl _ _⟩
          · have Hn := hid (show wpIn (M + 1 - (j+1)) (j+1) D (A2 + 1) = wpIn M 1 W A by rw [← Hin2.out, if_neg (by omega)])
            go_wp2
            go_round
            case rel => exact ⟨j+1, D, A2+1, by omega, by omega, by go_num, by go_num, by go_num, by omega, by have := HA.out; omega, Same.mk Hn.out⟩
            case measure => simp [intOf]; omega
        · have hj3 : j = M + 1 := by omega
          have Hn := hid (show wpIn M 1 W A = some (W2, A2) by have h9 := hI.out; rw [show M + 1 - j = 0 by omega] at h9; exact h9.symm)
          have p4 : A2 ≤ A + 60 := by omega
          clear hI hA2 hj3
          have Ho := hid (show wpFrom (xs.drop (k+1)) W2 A2 = wpFrom xs 1 0 by rw [← Hst.out, Hn.out]; rfl)
          go_wp2
          go_round
          case rel => exact ⟨k+1, W2, A2, by omega, by go_num, rfl, rfl, by omega, by omega, Same.mk Ho.out⟩
          case measure => simp [intOf]; omega
    · have hst := hS.out
      rw [List.drop_eq_nil_of_le (by omega)] at hst
      have hT := hid (show waysC xs = some W by rw [hyes.out]; exact hst.symm)
      clear hst
      go_wp2
      go_ret2
      exact ⟨by rw [hT.out]; rfl, Below.refl _ _⟩
end Go.Proofs.Ytjcoakgdhiiiaaa
