/- A float32 that is widened is never too great. -/
import Derived.Test.YtjcnoogloncbbaaFl
namespace Go.Own
set_option maxRecDepth 100000
open Go.RowKit
open Go
set_option linter.unusedVariables false
theorem cut_zero (neg : Bool) (n : Nat) : Ieee.Toward.even.cut neg n 0 = n := by
  simp [Ieee.Toward.cut, Nat.mod_one]
theorem single_read {b : Nat} {s : Bool} {m : Nat} {e : Int} (h : Ieee.single.read b = .number s m e) : m < 2 ^ 24 ∧ -149 ≤ e ∧ e ≤ 104 := by
  have h1 : Ieee.single.signWeight = 2147483648 := by decide
  have h2 : Ieee.single.infRung = 2139095040 := by decide
  have h3 : Ieee.single.binade = 8388608 := by decide
  have h4 : Ieee.single.leastPlace = -149 := by decide
  unfold Ieee.Format.read at h
  simp only [h1, h2, h3, h4] at h
  split at h
  · simp only [Ieee.Datum.number.injEq] at h; obtain ⟨_, rfl, rfl⟩ := h; omega
  · split at h
    · simp only [Ieee.Datum.number.injEq] at h; obtain ⟨_, rfl, rfl⟩ := h; omega
    · split at h <;> cases h
theorem widen_fits {s : Bool} {m : Nat} {e : Int} (hm : m < 2 ^ 24) (h0 : -149 ≤ e) (h1 : e ≤ 104) : (Ieee.double.read (Ieee.double.write (.number s m e))).isInfinity = false := by
  have hb : Ieee.double.binade = 4503599627370496 := by decide
  have hi : Ieee.double.infRung = 9218868437227405312 := by decide
  have hl : Ieee.double.leastPlace = -1074 := by decide
  have hf : (Ieee.double.fractionBits : Int) = 52 := by decide
  have hw : Ieee.double.signWeight = 9223372036854775808 := by decide
  obtain ⟨r, hr, e'⟩ : ∃ r, r < Ieee.double.infRung ∧ Ieee.double.nearest s m e = Ieee.double.word s r := by
    unfold Ieee.Format.nearest
    by_cases hz : m = 0
    · rw [if_pos hz]; exact ⟨0, by rw [hi]; omega, rfl⟩
    · rw [if_neg hz]
      have hg : m.log2 < 24 := (Nat.log2_lt hz).2 hm
      have hlog : m < 2 ^ (m.log2 + 1) := Nat.lt_log2_self
      have hlast : max (e + m.log2 - Ieee.double.fractionBits) Ieee.double.leastPlace = e + m.log2 - 52 := by rw [hf, hl]; omega
      refine ⟨_, ?_, rfl⟩
      rw [hlast]
      simp only [hl, hb, hi]
      rw [show (e + (m.log2 : Int) - 52 - e).toNat = 0 by omega, show (e - (e + (m.log2 : Int) - 52)).toNat = 52 - m.log2 by omega, cut_zero, Nat.shiftLeft_eq]
      have hk : m * 2 ^ (52 - m.log2) < 2 ^ 53 := by
        have h2 : m * 2 ^ (52 - m.log2) < 2 ^ (m.log2 + 1) * 2 ^ (52 - m.log2) := Nat.mul_lt_mul_of_pos_right hlog (Nat.pow_pos (by decide))
        rw [← Nat.pow_add, show m.log2 + 1 + (52 - m.log2) = 53 by omega] at h2
        exact h2
      have hq : (e + (m.log2 : Int) - 52 - -1074).toNat ≤ 1149 := by omega
      have hk : m * 2 ^ (52 - m.log2) < 9007199254740992 := hk
      generalize m * 2 ^ (52 - m.log2) = K at hk ⊢
      generalize (e + (m.log2 : Int) - 52 - -1074).toNat = q at hq ⊢
      have hmul : q * 4503599627370496 ≤ 1149 * 4503599627370496 := Nat.mul_le_mul_right _ hq
      exact Nat.lt_of_le_of_lt (Nat.min_le_left _ _) (by omega)
  show (Ieee.double.read (Ieee.double.nearest s m e)).isInfinity = false
  rw [e']
  have hm' : Ieee.double.word s r % Ieee.double.signWeight = r := by
    have hlt : r < Ieee.double.signWeight := by rw [hw]; rw [hi] at hr; omega
    cases s
    · exact Nat.mod_eq_of_lt hlt
    · show (Ieee.double.signWeight + r) % Ieee.double.signWeight = r
      rw [Nat.add_mod_left, Nat.mod_eq_of_lt hlt]
  unfold Ieee.Format.read
  simp only [hm']
  rw [hi] at hr ⊢
  split
  · rfl
  · first | rfl | (rw [if_pos hr]; rfl)
end Go.Own
