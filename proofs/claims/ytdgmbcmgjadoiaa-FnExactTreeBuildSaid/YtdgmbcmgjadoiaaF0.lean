/- Small functions that every chapter's model goes by. -/
import Derived.Test.YtdgmbcmgjadoiaaBase
namespace Go.Proofs.Ytdgmbcmgjadoiaa
set_option maxRecDepth 100000
open Go.RowKit Go.Proofs Go.Own

/-- A number that an int can be. -/
def InI (h : Int) : Prop := -9223372036854775808 ≤ h ∧ h ≤ 9223372036854775807
theorem inI_of_wf {h : Int} (hw : (Lit.int .i64 h).wf = true) : InI h := by
  have h1 : IntKind.min .i64 = -9223372036854775808 := by decide
  have h2 : IntKind.max .i64 = 9223372036854775807 := by decide
  simp only [Lit.wf, Bool.and_eq_true, decide_eq_true_eq, h1, h2] at hw
  exact hw
def isVal (x : Int) : Bool := inB x (-1000000000) 1000000000
theorem isVal_iff {x : Int} (h : isVal x = true) : -1000000000 ≤ x ∧ x ≤ 1000000000 := by simpa [isVal, inB] using h
def hasFrom (xs : List Int) (x : Int) (k : Nat) : Bool := decide (x ∈ xs.drop k)
theorem hasFrom_step (xs : List Int) (x : Int) (k : Nat) (h : k < xs.length) : hasFrom xs x k = ((xs[k] == x) || hasFrom xs x (k+1)) := by
  simp only [hasFrom]
  rw [List.drop_eq_getElem_cons h]
  rw [Bool.eq_iff_iff]
  simp only [List.mem_cons, decide_eq_true_eq, Bool.or_eq_true, beq_iff_eq]
  constructor
  · rintro (e | e)
    · exact .inl e.symm
    · exact .inr e
  · rintro (e | e)
    · exact .inl e.symm
    · exact .inr e
theorem hasFrom_end (xs : List Int) (x : Int) (k : Nat) (h : ¬ k < xs.length) : hasFrom xs x k = false := by
  simp [hasFrom, List.drop_eq_nil_of_le (Nat.le_of_not_lt h)]
end Go.Proofs.Ytdgmbcmgjadoiaa
