/- Chapter 16: SetList's contracts as the law's walk takes them. -/
import Derived.Test.YtdgmbcmgjadoiaaI16g
namespace Go.Proofs.Ytdgmbcmgjadoiaa
set_option maxRecDepth 100000
open Go.RowKit Go.Proofs Go.Own
set_option linter.unusedVariables false
theorem listC_B (s : List RowD) (hb : IntSSB s) : IntSB (listC s) := by
  have h1 := listC_len s
  have hN : (allL s).length ≤ 1048576 := by rw [allL_len]; unfold IntSSB szIntSSD at hb; omega
  unfold IntSB; omega
theorem spec_SetListW (s : List RowD) (v : Value) (w : World) (r : rdsL w v s) (hb : IntSSB s) :
    Calls Try.prog 32 #[v] w fun e w' => ∃ u : Value, e = .returned u ∧ rdsL w' u (listC s) ∧ Below w.heap.size w w' :=
  (spec_SetList0 s v w r hb).mono fun _ _ ⟨u, he, ho, b⟩ => ⟨u, he, rdsInts.2 (Flat.of_owns ho), b⟩
theorem impl_SetListW (s : List RowD) (v : Value) (w : World) (r : rdsL w v s) (hb : IntSSB s) :
    Calls Try.prog 33 #[v] w fun e w' => ∃ u : Value, ∃ S : Nat → Prop, e = .returned u ∧ ownL S w' u (listC s) ∧ (∀ k, S k → Rg w.heap.size w'.heap.size k) ∧ IntSB (listC s) ∧ Below w.heap.size w w' :=
  (impl_SetList0 s v w r hb).mono fun _ _ ⟨u, he, ho, b⟩ => ⟨u, _, he, ownInt_of ho, fun _ h => h, listC_B s hb, b⟩
end Go.Proofs.Ytdgmbcmgjadoiaa
