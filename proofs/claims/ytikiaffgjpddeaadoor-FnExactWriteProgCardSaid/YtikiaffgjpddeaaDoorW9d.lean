/- Chapter 9: the text functions' contracts as the laws' walks take them. -/
import Derived.Test.YtikiaffgjpddeaaDoorI9v
import Derived.Test.YtikiaffgjpddeaaDoorI9r
namespace Go.Proofs.YtikiaffgjpddeaaDoor
set_option maxRecDepth 100000
open Go.RowKit Go.Proofs Go.Own
set_option linter.unusedVariables false
theorem readFrom_len (n : Int) (rest : List UInt8) : ∀ (ls : List (List UInt8)) (k : Nat) (acc : List Instr), acc.length = k → k ≤ 30 → (readFrom n rest ls k acc).1.length ≤ 30
  | [], k, acc, h, hk => by unfold readFrom; split <;> simp <;> omega
  | l :: ls, k, acc, h, hk => by
    unfold readFrom
    split
    · simp
    · cases readI l n with
      | none => simp
      | some i => exact readFrom_len n rest ls (k+1) _ (by simp; omega) (by omega)
theorem readC_len (s : List UInt8) : (readC s).1.length ≤ 1048576 := by
  unfold readC; split
  · simp
  · exact Nat.le_trans (readFrom_len _ _ _ 0 [] rfl (by omega)) (by decide)
noncomputable def readT (s : ByteArray) : List Instr × Int × Bool := readC s.data.toList
theorem spec_WriteProgW (v : Value) (xs : List Instr) (w : World) (h : Instrs w v xs) (hx : xs.length ≤ 1048576) :
    Calls Tryd.prog 6 #[v] w fun e w' => e = .returned (.tuple #[.string (textOf xs), .bool (progOk xs)]) ∧ Below w.heap.size w w' := spec_WriteProg0 v xs w h
theorem impl_WriteProgW (v : Value) (xs : List Instr) (w : World) (h : Instrs w v xs) (hx : xs.length ≤ 1048576) (ht : Tab w) :
    Calls Tryd.prog 8 #[v] w fun e w' => e = .returned (.tuple #[.string (textOf xs), .bool (progOk xs)]) ∧ Below w.heap.size w w' := impl_WriteProg0 v xs w h ht
theorem spec_ReadProgW (s : ByteArray) (w : World) (hs : s.size ≤ 1048576 := by assumption) :
    Calls Tryd.prog 10 #[.string s] w fun e w' => ∃ v' : Value, e = .returned (.tuple #[v', .int .i64 (readT s).2.1, .bool (readT s).2.2]) ∧ Instrs w' v' (readT s).1 ∧ Below w.heap.size w w' :=
  (spec_ReadProg0 s w).mono fun _ _ ⟨⟨v', he, o⟩, b⟩ => ⟨v', he, Flat.of_owns o, b⟩
theorem impl_ReadProgW (s : ByteArray) (w : World) (hv : Env w) (hs : s.size ≤ 1048576 := by assumption) :
    Calls Tryd.prog 11 #[.string s] w fun e w' => ∃ v' : Value, e = .returned (.tuple #[v', .int .i64 (readT s).2.1, .bool (readT s).2.2]) ∧ w'.ownsRow w.heap.size 37 3 v' (readT s).1.length ((readT s).1.flatMap Instr.enc) ∧ (readT s).1.length ≤ 1048576 ∧ Below w.heap.size w w' :=
  (impl_ReadProg0 s w hv).mono fun _ _ ⟨⟨v', he, o⟩, b⟩ => ⟨v', he, o, readC_len _, b⟩
end Go.Proofs.YtikiaffgjpddeaaDoor
