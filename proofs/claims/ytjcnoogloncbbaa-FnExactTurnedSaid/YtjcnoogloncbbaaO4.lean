/- Finite floats: the model's test and the library's. -/
import Derived.Test.YtjcnoogloncbbaaF4b
import Derived.Laws.Externs
namespace Go.Proofs.Ytjcnoogloncbbaa
set_option maxRecDepth 100000
open Go.RowKit Go.Proofs Go.Own
set_option linter.unusedVariables false
set_option linter.unusedSimpArgs false
theorem abs_bits (x : Nat) : (bits .andNot .u64 (x : Int) 9223372036854775808).toNat = x % 9223372036854775808 := by
  show (IntKind.u64.wrap ((BitVec.ofInt 64 (x : Int) &&& ~~~BitVec.ofInt 64 9223372036854775808).toNat : Int)).toNat = _
  have e : (BitVec.ofInt 64 9223372036854775808).toNat = 9223372036854775808 := by decide
  rw [BitVec.toNat_and, BitVec.toNat_not, e, BitVec.ofInt_natCast, BitVec.toNat_ofNat, show (2 : Nat) ^ 64 - 1 - 9223372036854775808 = 2 ^ 63 - 1 by decide, Nat.and_two_pow_sub_one_eq_mod, IntKind.wrap_u64]
  omega
theorem math_Abs (x : Nat) (w : World) :
    Calls Try.prog 60 #[.float .f64 x] w fun e w' => e = .returned (.float .f64 (x % 9223372036854775808)) ∧ w' = w := by
  have hb : ∀ (w : World), (callFunc 62 #[.float .f64 x]).run Try.prog w = .ok (.value (.int .u64 x)) w := fun w => by
    rw [run_callFunc_extern (e := Extern.MathFloatBits.float64bits) Try.func62 (by kernel_rfl) (by kernel_rfl) rfl rfl]; rfl
  have hf : ∀ (n : Int) (w : World), (callFunc 61 #[.int .u64 n]).run Try.prog w = .ok (.value (.float .f64 n.toNat)) w := fun n w => by
    rw [run_callFunc_extern (e := Extern.MathFloatBits.float64frombits) Try.func61 (by kernel_rfl) (by kernel_rfl) rfl rfl]; rfl
  go_enter Try.func60, Try.ntmps60
  go_wp2
  go_ret
  exact ⟨by rw [← abs_bits]; rfl, rfl⟩
def infB (x : Nat) : Bool := (Ieee.double.read x).isInfinity
theorem read_mod (x : Nat) : Ieee.double.read (x % 9223372036854775808) = match Ieee.double.read x with
    | .number _ m e => .number false m e | .infinity _ => .infinity false | .nan _ t => .nan false t := by
  have hw : Ieee.double.signWeight = 9223372036854775808 := by decide
  unfold Ieee.Format.read
  simp only [hw]
  rw [show x % 9223372036854775808 / 9223372036854775808 = 0 by omega, show x % 9223372036854775808 % 9223372036854775808 = x % 9223372036854775808 by omega]
  generalize (x / 9223372036854775808 % 2 == 1) = s
  generalize x % 9223372036854775808 = r
  split
  · rfl
  · split
    · rfl
    · split
      · rfl
      · rfl
theorem double_read {b : Nat} {s : Bool} {m : Nat} {e : Int} (h : Ieee.double.read b = .number s m e) : m < 2 ^ 53 ∧ -1074 ≤ e ∧ e ≤ 971 := by
  have h1 : Ieee.double.signWeight = 9223372036854775808 := by decide
  have h2 : Ieee.double.infRung = 9218868437227405312 := by decide
  have h3 : Ieee.double.binade = 4503599627370496 := by decide
  have h4 : Ieee.double.leastPlace = -1074 := by decide
  unfold Ieee.Format.read at h
  simp only [h1, h2, h3, h4] at h
  split at h
  · simp only [Ieee.Datum.number.injEq] at h; obtain ⟨_, rfl, rfl⟩ := h; omega
  · split at h
    · simp only [Ieee.Datum.number.injEq] at h; obtain ⟨_, rfl, rfl⟩ := h; omega
    · split at h <;> cases h
theorem max_read : Ieee.double.read 9218868437227405311 = .number false 9007199254740991 971 := by decide
theorem above_max (x : Nat) : (FloatKind.f64.format.order (x % 9223372036854775808) 9218868437227405311 == some .gt) = infB x := by
  show ((Ieee.double.read _).order (Ieee.double.read _) == some .gt) = _
  rw [max_read, read_mod]
  unfold infB
  cases hd : Ieee.double.read x with
  | nan s t => rfl
  | infinity s => rfl
  | number s m e =>
    obtain ⟨h1, h2, h3⟩ := double_read hd
    show ((Ieee.Datum.number false m e).order (Ieee.Datum.number false 9007199254740991 971) == some .gt) = false
    simp only [Ieee.Datum.order, Ieee.signed]
    rw [show min e 971 = e by omega, show (e - e).toNat = 0 by omega]
    simp only [Nat.shiftLeft_eq, Nat.pow_zero, Nat.mul_one, Bool.false_eq_true, if_false]
    have hp : 0 < 2 ^ (971 - e).toNat := Nat.pow_pos (by decide)
    have hle : 9007199254740991 ≤ 9007199254740991 * 2 ^ (971 - e).toNat := Nat.le_mul_of_pos_right _ hp
    generalize 9007199254740991 * 2 ^ (971 - e).toNat = K at hle
    have : ¬ compare (m : Int) (K : Int) = .gt := by
      rw [compare, instOrdInt]
      simp only [compareOfLessAndEq]
      split
      · simp
      · split
        · simp
        · omega
    simpa using this
theorem math_IsInf (x : Nat) (w : World) :
    Calls Try.prog 57 #[.float .f64 x, .int .i64 0] w fun e w' => e = .returned (.bool (infB x)) ∧ w' = w := by
  go_enter Try.func57, Try.ntmps57
  go_wp2_with fail
  refine (math_Abs x _).mono ?_
  rintro e w' ⟨rfl, rfl⟩
  go_wp2
  go_ret
  exact ⟨ret_bool (above_max x), rfl⟩
theorem math_IsNaN (x : Nat) (w : World) :
    Calls Try.prog 58 #[.float .f64 x] w fun e w' => e = .returned (.bool (nanB .f64 x)) ∧ w' = w := by
  have ho : (FloatKind.f64.format.order x x != some .eq) = nanB .f64 x := by
    cases hn : nanB .f64 x
    · rw [order_self hn]; rfl
    · rw [show FloatKind.f64.format.order x x = none from order_nan (.inl hn)]; rfl
  go_enter Try.func58, Try.ntmps58
  go_wp2
  go_ret
  exact ⟨rfl, rfl⟩
def finR : R → Bool
  | none => false
  | some x => !infB x
theorem finR_rd (x : Nat) : finR (rd x) = (!infB x && !nanB .f64 x) := by
  cases hn : nanB .f64 x
  · rw [show rd x = some x from rdF_some hn]; simp [finR]
  · rw [show rd x = none from rdF_none hn]; simp [finR]
theorem sub_self_fin (x : Nat) : eqR (subR (rd x) (rd x)) (some 0) = finR (rd x) := by
  cases hn : nanB .f64 x
  · rw [show rd x = some x from rdF_some hn]
    show eqR (floatBits .sub .f64 x x) (some 0) = !infB x
    unfold floatBits infB
    show eqR (((Ieee.double.read x).sum (Ieee.double.read x).opposite).map Ieee.double.write) (some 0) = _
    rw [nan64] at hn
    cases hd : Ieee.double.read x with
    | nan s t => rw [hd] at hn; cases hn
    | infinity s => cases s <;> rfl
    | number s m e =>
      have : (Ieee.Datum.number s m e).sum (Ieee.Datum.number s m e).opposite = some (.number false 0 e) := by
        simp only [Ieee.Datum.opposite, Ieee.Datum.sum, Ieee.signed]
        cases s <;> simp <;> omega
      rw [this]
      have hw : Ieee.double.write (.number false 0 e) = 0 := rfl
      show eqR (some (Ieee.double.write (.number false 0 e))) (some 0) = true
      rw [hw]
      decide
  · rw [show rd x = none from rdF_none hn]; rfl
theorem spec_l4Finite (x : Nat) (w : World) :
    Calls Try.prog 45 #[.float .f64 x] w fun e w' => ∃ n, e = .returned (.bool (finR (rd x))) ∧ w' = w.drewN n := by
  go_enter Try.func45, Try.ntmps45
  go_wp2
  go_ret
  exact ⟨_, ret_bool (by rw [order_rd, rd_sub, rd_zero]; exact sub_self_fin x), rfl⟩
end Go.Proofs.Ytjcnoogloncbbaa
