/- Floats that are read modulo NaN: what an operation answers is one function of what its operands read as. -/
import Derived.Test.YtjcnoogloncbbaaBase2
import Derived.Laws.FloatArith
namespace Go.Own
set_option maxRecDepth 100000
open Go.RowKit
open Go
set_option linter.unusedVariables false
set_option linter.unusedSimpArgs false
def nanB (k : FloatKind) (b : Nat) : Bool := (k.decode b).isNaN
/-- A float by its bits; every NaN is one. -/
def rdF (k : FloatKind) (b : Nat) : Option Nat := if nanB k b = true then none else some b
def fop (op : BinOp) (k : FloatKind) (a b : Option Nat) : Option Nat := a.bind fun x => b.bind fun y => floatBits op k x y
def ford (k : FloatKind) (a b : Option Nat) : Option Ordering := a.bind fun x => b.bind fun y => k.format.order x y
theorem rdF_some {k : FloatKind} {b : Nat} (h : nanB k b = false) : rdF k b = some b := by simp [rdF, h]
theorem rdF_none {k : FloatKind} {b : Nat} (h : nanB k b = true) : rdF k b = none := by simp [rdF, h]
theorem opposite_nan (d : Ieee.Datum) : d.opposite.isNaN = d.isNaN := by cases d <;> rfl
theorem sum_nan {d e : Ieee.Datum} (h : d.isNaN = true ∨ e.isNaN = true) : d.sum e = none := by
  cases d <;> cases e <;> simp_all [Ieee.Datum.sum, Ieee.Datum.isNaN]
theorem product_nan {d e : Ieee.Datum} (h : d.isNaN = true ∨ e.isNaN = true) : d.product e = none := by
  cases d <;> cases e <;> simp_all [Ieee.Datum.product, Ieee.Datum.isNaN]
theorem quotient_nan {n : Nat} {d e : Ieee.Datum} (h : d.isNaN = true ∨ e.isNaN = true) : d.quotient n e = none := by
  cases d <;> cases e <;> simp_all [Ieee.Datum.quotient, Ieee.Datum.isNaN]
theorem order_nan {d e : Ieee.Datum} (h : d.isNaN = true ∨ e.isNaN = true) : d.order e = none := by
  cases d <;> cases e <;> simp_all [Ieee.Datum.order, Ieee.Datum.isNaN]
theorem sum_is {d e r : Ieee.Datum} (h : d.sum e = some r) : r.isNaN = false := by
  cases d <;> cases e <;> simp only [Ieee.Datum.sum, reduceCtorEq, Option.some.injEq] at h <;> first | (subst h; rfl) | (split at h <;> cases h; rfl)
theorem product_is {d e r : Ieee.Datum} (h : d.product e = some r) : r.isNaN = false := by
  cases d <;> cases e <;> simp only [Ieee.Datum.product, reduceCtorEq, Option.some.injEq] at h <;> first | (subst h; rfl) | (split at h <;> cases h; rfl)
theorem quotient_is {n : Nat} {d e r : Ieee.Datum} (h : d.quotient n e = some r) : r.isNaN = false := by
  cases d <;> cases e <;> simp only [Ieee.Datum.quotient, reduceCtorEq, Option.some.injEq] at h <;> first | (subst h; rfl) | (repeat (split at h)) <;> cases h <;> rfl
theorem read_word (f : Ieee.Format) (neg : Bool) (rung : Nat) (h : rung ≤ f.infRung) : (f.read (f.word neg rung)).isNaN = false := by
  have hlt : rung < f.signWeight := Nat.lt_of_le_of_lt h f.infRung_lt
  have hm : f.word neg rung % f.signWeight = rung := by
    cases neg
    · exact Nat.mod_eq_of_lt hlt
    · show (f.signWeight + rung) % f.signWeight = rung
      rw [Nat.add_mod_left, Nat.mod_eq_of_lt hlt]
  unfold Ieee.Format.read
  simp only [hm]
  split
  · rfl
  · split
    · rfl
    · split
      · rfl
      · omega
theorem nearest_word (f : Ieee.Format) (neg : Bool) (mag : Nat) (place : Int) : ∃ r, r ≤ f.infRung ∧ f.nearest neg mag place = f.word neg r := by
  unfold Ieee.Format.nearest
  split
  · exact ⟨0, Nat.zero_le _, rfl⟩
  · exact ⟨_, Nat.min_le_right _ _, rfl⟩
theorem read_write (f : Ieee.Format) {d : Ieee.Datum} (h : d.isNaN = false) : (f.read (f.write d)).isNaN = false := by
  cases d with
  | number s m e =>
    obtain ⟨r, hr, e'⟩ := nearest_word f s m e
    show (f.read (f.nearest s m e)).isNaN = false
    rw [e']; exact read_word f s r hr
  | infinity s => exact read_word f s _ (Nat.le_refl _)
  | nan s t => cases h
theorem floatBits_nan {op : BinOp} {k : FloatKind} {x y : Nat} (h : nanB k x = true ∨ nanB k y = true) : floatBits op k x y = none := by
  simp only [nanB, FloatKind.decode] at h
  unfold floatBits
  split
  · simp [Ieee.Format.add, sum_nan h]
  · simp [Ieee.Format.sub, sum_nan (e := (k.format.read y).opposite) (h.imp id fun e => by rw [opposite_nan]; exact e)]
  · simp [Ieee.Format.mul, product_nan h]
  · simp [Ieee.Format.div, quotient_nan h]
  · rfl
theorem floatBits_is {op : BinOp} {k : FloatKind} {x y r : Nat} (h : floatBits op k x y = some r) : nanB k r = false := by
  unfold floatBits at h
  split at h
  · simp only [Ieee.Format.add, Option.map_eq_some_iff] at h; obtain ⟨d, hd, rfl⟩ := h; exact read_write _ (sum_is hd)
  · simp only [Ieee.Format.sub, Option.map_eq_some_iff] at h; obtain ⟨d, hd, rfl⟩ := h; exact read_write _ (sum_is hd)
  · simp only [Ieee.Format.mul, Option.map_eq_some_iff] at h; obtain ⟨d, hd, rfl⟩ := h; exact read_write _ (product_is hd)
  · simp only [Ieee.Format.div, Option.map_eq_some_iff] at h; obtain ⟨d, hd, rfl⟩ := h; exact read_write _ (quotient_is hd)
  · cases h
theorem fop_rd (op : BinOp) (k : FloatKind) (x y : Nat) : fop op k (rdF k x) (rdF k y) = floatBits op k x y := by
  cases hx : nanB k x
  · cases hy : nanB k y
    · rw [rdF_some hx, rdF_some hy]; rfl
    · rw [rdF_some hx, rdF_none hy, floatBits_nan (.inr hy)]; rfl
  · rw [rdF_none hx, floatBits_nan (.inl hx)]; rfl
theorem ford_rd (k : FloatKind) (x y : Nat) : ford k (rdF k x) (rdF k y) = k.format.order x y := by
  have hn : nanB k x = true ∨ nanB k y = true → k.format.order x y = none := fun h => order_nan h
  cases hx : nanB k x
  · cases hy : nanB k y
    · rw [rdF_some hx, rdF_some hy]; rfl
    · rw [rdF_some hx, rdF_none hy, hn (.inr hy)]; rfl
  · rw [rdF_none hx, hn (.inl hx)]; rfl
theorem isNaN_nan (a : Bool) (b : Nat) : (Ieee.Datum.nan a b).isNaN = true := rfl
/-- A word above infinity's is a NaN. -/
theorem read_nan (f : Ieee.Format) (W I B x s m : Nat) (h1 : f.signWeight = W) (h2 : f.infRung = I) (h3 : f.binade = B) (hx : x = s * W + (I + 1 + m)) (hm : I + 1 + m < W) (hB : B ≤ I) : (f.read x).isNaN = true := by
  have e : x % f.signWeight = I + 1 + m := by rw [hx, h1, Nat.add_comm, Nat.add_mul_mod_self_right, Nat.mod_eq_of_lt hm]
  unfold Ieee.Format.read
  simp only [e, h2, h3]
  rw [if_neg (by omega), if_neg (by omega), if_neg (by omega)]
  exact isNaN_nan _ _
/-- The NaN that the model draws is a NaN. -/
theorem nan_cut (k : FloatKind) (x y t : Nat) : nanB k ((Question.nanBits k x y).cut t) = true := by
  have p31 : (2 : Nat) ^ 31 = 2147483648 := by decide
  have p23 : (2 : Nat) ^ 23 - 1 = 8388607 := by decide
  have p63 : (2 : Nat) ^ 63 = 9223372036854775808 := by decide
  have p52 : (2 : Nat) ^ 52 - 1 = 4503599627370495 := by decide
  cases k
  · exact read_nan Ieee.single 2147483648 2139095040 8388608 _ (t % 2) (t / 2 % 8388607) (by decide) (by decide) (by decide) (by simp only [Question.cut, p31, p23]; omega) (by have := Nat.mod_lt (t / 2) (show 0 < 8388607 by decide); omega) (by decide)
  · exact read_nan Ieee.double 9223372036854775808 9218868437227405312 4503599627370496 _ (t % 2) (t / 2 % 4503599627370495) (by decide) (by decide) (by decide) (by simp only [Question.cut, p63, p52]; omega) (by have := Nat.mod_lt (t / 2) (show 0 < 4503599627370495 by decide); omega) (by decide)
/-- '+', '-', '*', '/': some bits that read as the operation says; the world has drawn, or not. -/
theorem run_fop {P : Program} (op : BinOp) (hop : op = .add ∨ op = .sub ∨ op = .mul ∨ op = .quo) (t : TypeId) (k : FloatKind) (x y : Nat) (w : World) :
    ∃ r w', (binOp op t (.float k x) (.float k y)).run P w = .ok (.float k r) w' ∧ rdF k r = fop op k (rdF k x) (rdF k y) ∧ (w' = w ∨ w' = w.drew) := by
  rw [fop_rd]
  cases h : floatBits op k x y with
  | some r => exact ⟨r, w, run_float_arith w op t k x y r h, rdF_some (floatBits_is h), .inl rfl⟩
  | none =>
    refine ⟨(Question.nanBits k x y).cut (w.tape w.drawn (.nanBits k x y)), w.drew, ?_, rdF_none (nan_cut _ _ _ _), .inr rfl⟩
    rcases hop with rfl | rfl | rfl | rfl <;> simp only [floatBits] at h <;> simp [binOp, Op.floatArith, h, Question.forced]
/-- Whether a word is a NaN, its rung tells. -/
theorem read_rung (f : Ieee.Format) (x y : Nat) (h : x % f.signWeight = y % f.signWeight) : (f.read x).isNaN = (f.read y).isNaN := by
  unfold Ieee.Format.read
  simp only [h]
  repeat' split
  all_goals rfl
theorem negFloat_nan (k : FloatKind) (b : Nat) : nanB k (Op.negFloat k b) = nanB k b := by
  refine read_rung _ _ _ ?_
  show (b ^^^ 2 ^ (k.format.exponentBits + k.format.fractionBits)) % 2 ^ (k.format.exponentBits + k.format.fractionBits) = b % 2 ^ (k.format.exponentBits + k.format.fractionBits)
  rw [Nat.xor_mod_two_pow, Nat.mod_self, Nat.xor_zero]
def fneg (k : FloatKind) (a : Option Nat) : Option Nat := a.map (Op.negFloat k)
theorem fneg_rd (k : FloatKind) (x : Nat) : rdF k (Op.negFloat k x) = fneg k (rdF k x) := by
  cases hx : nanB k x
  · rw [rdF_some hx, rdF_some (by rw [negFloat_nan]; exact hx)]; rfl
  · rw [rdF_none hx, rdF_none (by rw [negFloat_nan]; exact hx)]; rfl
/-- Two floats that read alike are alike, NaN or not. -/
theorem rdF_same {k : FloatKind} {x y : Nat} (h : rdF k x = rdF k y) : (nanB k x = true ∧ nanB k y = true) ∨ (x = y ∧ nanB k x = false) := by
  cases hx : nanB k x
  · cases hy : nanB k y
    · rw [rdF_some hx, rdF_some hy] at h; exact .inr ⟨Option.some.inj h, rfl⟩
    · rw [rdF_some hx, rdF_none hy] at h; cases h
  · cases hy : nanB k y
    · rw [rdF_none hx, rdF_some hy] at h; cases h
    · exact .inl ⟨rfl, rfl⟩
end Go.Own
