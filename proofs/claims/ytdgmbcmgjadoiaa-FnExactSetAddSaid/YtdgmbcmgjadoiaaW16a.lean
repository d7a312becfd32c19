/- Chapter 16: SetAdd's contracts as the law's walk takes them. -/
import Derived.Test.YtdgmbcmgjadoiaaI16g
import Derived.Test.YtdgmbcmgjadoiaaS16f
namespace Go.Proofs.Ytdgmbcmgjadoiaa
set_option maxRecDepth 100000
open Go.RowKit Go.Proofs Go.Own
set_option linter.unusedVariables false
theorem addC_B (s : List RowD) (x : Int) (hb : IntSSB s) : IntSSB (addC s x).1 := by
  obtain ⟨r, hr⟩ : ∃ r, (setOk s && isVal x) = r := ⟨_, rfl⟩
  cases r with
  | false => rw [add_bad hr]; exact hb
  | true =>
    have h8 := setOk_pos (by rw [Bool.and_eq_true] at hr; exact hr.1 : setOk s = true)
    have hN := ok_all (by rw [Bool.and_eq_true] at hr; exact hr.1 : setOk s = true)
    obtain ⟨h1, h2⟩ := add_bound s x h8.2
    exact intSSB_of h1 (by omega)
theorem spec_SetAddW (s : List RowD) (v : Value) (x : Int) (w : World) (r : rdsL w v s) (hb : IntSSB s) :
    Calls Try.prog 28 #[v, .int .i64 x] w fun e w' => ∃ u : Value, e = .returned (.tuple #[u, .int .i64 (addC s x).2]) ∧ rdsL w' u (addC s x).1 ∧ Below w.heap.size w w' :=
  (spec_SetAdd0 s x v w r hb).mono fun _ _ ⟨u, he, ho, b⟩ => ⟨u, he, ho.rds, b⟩
theorem impl_SetAddW (s : List RowD) (v : Value) (x : Int) (w : World) (r : rdsL w v s) (hb : IntSSB s) :
    Calls Try.prog 29 #[v, .int .i64 x] w fun e w' => ∃ u : Value, ∃ S : Nat → Prop, e = .returned (.tuple #[u, .int .i64 (addC s x).2]) ∧ ownL S w' u (addC s x).1 ∧ (∀ k, S k → Rg w.heap.size w'.heap.size k) ∧ IntSSB (addC s x).1 ∧ Below w.heap.size w w' :=
  (impl_SetAdd0 s x v w r hb).mono fun _ _ ⟨u, he, ho, b⟩ => ⟨u, _, he, ho, fun _ h => h, addC_B s x hb, b⟩
end Go.Proofs.Ytdgmbcmgjadoiaa
