/- Chapter 5's model: a word of a schedule. -/
import Derived.Test.YtjcoakgdhiiiaaaS5
import Derived.Test.YtjcoakgdhiiiaaaBx
import Derived.Deep.RegionHeld3
namespace Go.Proofs.Ytjcoakgdhiiiaaa
set_option maxRecDepth 100000
open Go.RowKit Go.Proofs Go.Own
set_option linter.unusedVariables false
set_option linter.unusedSimpArgs false
/-- A text's byte. -/
def bt (s : ByteArray) (i : Nat) : Nat := if h : i < s.size then (s[i]'h).toNat else 0
theorem bt_eq {s : ByteArray} {i : Nat} (h : i < s.size) : (s[i]'h).toNat = bt s i := by unfold bt; rw [dif_pos h]
theorem bt_lt (s : ByteArray) (i : Nat) : bt s i ≤ 255 := by
  unfold bt; split
  · have := UInt8.toNat_lt (s[i]'(by assumption)); omega
  · omega
/-- The number that digits from place i on tell, n standing ahead of them. -/
def digits (s : ByteArray) : Nat → Nat → Nat → Option Nat
  | 0, _, n => some n
  | k+1, i, n => if 48 ≤ bt s i ∧ bt s i ≤ 57 then digits s k (i+1) (10 * n + (bt s i - 48)) else none
/-- What a word tells. -/
def wordC (s : ByteArray) : Option Run :=
  if s.size = 0 then none
  else if ¬ (48 ≤ bt s 0 ∧ bt s 0 ≤ 51) then none
  else if s.size = 1 then some ⟨(bt s 0 : Int) - 48, 1⟩
  else if ¬ (3 ≤ s.size ∧ s.size ≤ 5) then none
  else if bt s 1 ≠ 42 then none
  else if bt s 2 = 48 then none
  else (digits s (s.size - 2) 2 0).bind fun n => if 2 ≤ n ∧ n ≤ 500 then some ⟨(bt s 0 : Int) - 48, (n : Int)⟩ else none
def WordR (s : ByteArray) (e : Ending) : Prop := ∃ (r : Run) (B : Bool), e = .returned (.tuple #[.agg #[.int .i64 r.thread_, .int .i64 r.many_], .bool B]) ∧ wordC s = if B = true then some r else none
theorem inY {x a b : Int} (h : a ≤ x ∧ x ≤ b) : inB x a b = true := by simp [inB, h]
theorem inN {x a b : Int} (h : ¬ (a ≤ x ∧ x ≤ b)) : inB x a b = false := by simp [inB]; omega
end Go.Proofs.Ytjcoakgdhiiiaaa
