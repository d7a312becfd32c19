/- Chapter 5's model: WriteSchedule. -/
import Derived.Test.YtjcoakgdhiiiaaaS5b
import Derived.Test.YtjcoakgdhiiiaaaTld
namespace Go.Proofs.Ytjcoakgdhiiiaaa
set_option maxRecDepth 100000
open Go.RowKit Go.Proofs Go.Own
set_option linter.unusedVariables false
set_option linter.unusedSimpArgs false
theorem sz32 : ByteArray.size ⟨#[32]⟩ = 1 := rfl
theorem sz42 : ByteArray.size ⟨#[42]⟩ = 1 := rfl
def blankB : ByteArray := ⟨#[32]⟩
def starB : ByteArray := ⟨#[42]⟩
def aheadB (acc : ByteArray) (later : Bool) : ByteArray := if later = true then acc ++ blankB else acc
def behindB (acc : ByteArray) (m : Int) : ByteArray := if 1 < m then (acc ++ starB) ++ digS m.toNat else acc
def textFrom : List Run → ByteArray → Bool → ByteArray
  | [], acc, _ => acc
  | r :: rs, acc, later => textFrom rs (behindB (aheadB acc later ++ digS r.thread_.toNat) r.many_) true
def textOf (xs : List Run) : ByteArray := if schedOk xs = true then textFrom xs ByteArray.empty false else ByteArray.empty
theorem textFrom_step {xs : List Run} {k : Nat} (h : k < xs.length) (acc : ByteArray) (b : Bool) : textFrom (xs.drop k) acc b = textFrom (xs.drop (k+1)) (behindB (aheadB acc b ++ digS xs[k].thread_.toNat) xs[k].many_) true := by
  rw [List.drop_eq_getElem_cons h]; rfl
theorem runOk_all {r : Run} (h : runOk r = true) : (0 ≤ r.thread_ ∧ r.thread_ ≤ 3) ∧ 1 ≤ r.many_ ∧ r.many_ ≤ 500 := by
  simp [runOk, inB] at h; omega
end Go.Proofs.Ytjcoakgdhiiiaaa
