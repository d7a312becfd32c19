/- Chapter 16: SetOk's, NewSet's, SetHas16's contracts as the laws' walks take them. -/
import Derived.Test.YtdgmbcmgjadoiaaI16
namespace Go.Proofs.Ytdgmbcmgjadoiaa
set_option maxRecDepth 100000
open Go.RowKit Go.Proofs Go.Own
set_option linter.unusedVariables false
theorem spec_SetOkW (s : List RowD) (v : Value) (w : World) (r : rdsL w v s) (hb : IntSSB s) :
    Calls Try.prog 18 #[v] w fun e w' => e = .returned (.bool (setOk s)) ∧ Below w.heap.size w w' := spec_SetOk0 s v w r
theorem impl_SetOkW (s : List RowD) (v : Value) (w : World) (r : rdsL w v s) (hb : IntSSB s) :
    Calls Try.prog 20 #[v] w fun e w' => e = .returned (.bool (setOk s)) ∧ Below w.heap.size w w' := impl_SetOk0 s v w r
theorem spec_SetHas16W (s : List RowD) (v : Value) (x : Int) (w : World) (r : rdsL w v s) (hb : IntSSB s) :
    Calls Try.prog 26 #[v, .int .i64 x] w fun e w' => e = .returned (.bool (hasC s x)) ∧ Below w.heap.size w w' := spec_SetHas0 s x v w r
theorem impl_SetHas16W (s : List RowD) (v : Value) (x : Int) (w : World) (r : rdsL w v s) (hb : IntSSB s) :
    Calls Try.prog 27 #[v, .int .i64 x] w fun e w' => e = .returned (.bool (hasC s x)) ∧ Below w.heap.size w w' := impl_SetHas0 s x v w r
theorem new_B : IntSSB [(⟨[]⟩ : RowD)] := by unfold IntSSB szIntSSD pSum; decide
theorem spec_NewSetW (w : World) : Calls Try.prog 22 #[] w fun e w' => ∃ u : Value, e = .returned u ∧ rdsL w' u [(⟨[]⟩ : RowD)] ∧ Below w.heap.size w w' :=
  (spec_NewSet0 w).mono fun _ _ ⟨u, he, ho, b⟩ => ⟨u, he, ho.rds, b⟩
theorem impl_NewSetW (w : World) : Calls Try.prog 23 #[] w fun e w' => ∃ u : Value, ∃ S : Nat → Prop, e = .returned u ∧ ownL S w' u [(⟨[]⟩ : RowD)] ∧ (∀ k, S k → Rg w.heap.size w'.heap.size k) ∧ IntSSB [(⟨[]⟩ : RowD)] ∧ Below w.heap.size w w' :=
  (impl_NewSet0 w).mono fun _ _ ⟨u, he, ho, b⟩ => ⟨u, _, he, ho, fun _ h => h, new_B, b⟩
end Go.Proofs.Ytdgmbcmgjadoiaa
