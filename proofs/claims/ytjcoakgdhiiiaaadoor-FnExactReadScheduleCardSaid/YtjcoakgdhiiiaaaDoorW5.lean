/- Chapter 5's model: contracts as the laws' walks take them. -/
import Derived.Test.YtjcoakgdhiiiaaaDoorS5c
import Derived.Test.YtjcoakgdhiiiaaaDoorS5d
import Derived.Test.YtjcoakgdhiiiaaaDoorS5e
import Derived.Test.YtjcoakgdhiiiaaaDoorS5g
namespace Go.Proofs.YtjcoakgdhiiiaaaDoor
set_option maxRecDepth 100000
open Go.RowKit Go.Proofs Go.Own
set_option linter.unusedVariables false
theorem below_eq {w w' : World} (h : w = w') : Below w.heap.size w w' := h ▸ Below.refl _ _
theorem okFrom_len : ∀ (xs : List Run) (s : Int), okFrom xs s = true → 0 ≤ s → ((stepsOf xs).length : Int) + s ≤ 2000
  | [], s, h, h0 => by
    unfold okFrom at h
    simp at h
    simp [stepsOf]
    omega
  | r :: rs, s, h, h0 => by
    unfold okFrom at h
    split at h
    · rename_i hr
      split at h
      · obtain ⟨m1, m2⟩ := runOk_many hr
        have := okFrom_len rs _ h (by omega)
        have e : stepsOf (r :: rs) = List.replicate r.many_.toNat r.thread_ ++ stepsOf rs := by simp [stepsOf]
        rw [e, List.length_append, List.length_replicate]
        push_cast
        omega
      · cases h
    · cases h
def stepsC (xs : List Run) : List Int := if schedOk xs = true then stepsOf xs else []
theorem stepsC_len (xs : List Run) : (stepsC xs).length ≤ 1048576 := by
  unfold stepsC
  split
  · rename_i h
    have := okFrom_len xs 0 (by unfold schedOk at h; simp at h; exact h.2) (by omega)
    omega
  · simp
theorem readFrom_len (s : ByteArray) : ∀ (f A : Nat) (O : List Run) (T : Int), O.length ≤ 60 → (readFrom s f A O T).1.length ≤ 60
  | 0, _, O, _, h => h
  | f+1, A, O, T, h => by
    unfold readFrom
    split
    · split
      · simp
      · split
        · simp
        · rename_i hm
          exact readFrom_len s f _ _ _ (by simp; omega)
    · exact h
theorem readC_len (s : ByteArray) : (readC s).1.length ≤ 1048576 := by
  unfold readC
  split
  · simp
  split
  · simp
  have := readFrom_len s (s.size + 1) 0 [] 0 (by simp)
  omega
theorem spec_ScheduleOkW (v : Value) (xs : List Run) (w : World) (h : Runs w v xs) (hx : xs.length ≤ 1048576) :
    Calls Tryd.prog 14 #[v] w fun e w' => e = .returned (.bool (schedOk xs)) ∧ Below w.heap.size w w' :=
  (spec_ScheduleOk v xs w h hx).mono fun _ _ hh => ⟨hh.1, below_eq hh.2⟩
theorem spec_ReadScheduleW (s : ByteArray) (w : World) (hs : s.size ≤ 1048576 := by assumption) :
    Calls Tryd.prog 10 #[.string s] w fun e w' => ∃ v' : Value, e = .returned (.tuple #[v', .int .i64 (readC s).2.1, .int .i64 (readC s).2.2]) ∧ Runs w' v' (readC s).1 ∧ Below w.heap.size w w' :=
  (spec_ReadSchedule s w hs).mono fun _ _ ⟨⟨v', he, o⟩, b⟩ => ⟨v', he, Flat.of_owns o, b⟩
theorem spec_WriteScheduleW (v : Value) (xs : List Run) (w : World) (h : Runs w v xs) (hx : xs.length ≤ 1048576) :
    Calls Tryd.prog 6 #[v] w fun e w' => e = .returned (.tuple #[.string (textOf xs), .bool (schedOk xs)]) ∧ Below w.heap.size w w' := spec_WriteSchedule v xs w h hx
end Go.Proofs.YtjcoakgdhiiiaaaDoor
