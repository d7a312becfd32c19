/- Chapter 12: Serial's contracts as the law's walk takes them. -/
import Derived.Test.YtbbdchlabdilcaaS12f
import Derived.Test.YtbbdchlabdilcaaI12d
import Derived.Test.YtbbdchlabdilcaaN12p
namespace Go.Proofs.Ytbbdchlabdilcaa
set_option maxRecDepth 100000
open Go.RowKit Go.Proofs Go.Own
set_option linter.unusedVariables false
theorem serC_B {fs : List Int} {ds : List DescD} (hb : IntSB fs) : IntSB (serC fs ds).1 := by
  unfold serC IntSB
  split
  · rw [serTo_len]; exact hb
  · simp
theorem spec_SerialW (fs : List Int) (v0 : Value) (ds : List DescD) (v1 : Value) (w : World) (r0 : rdsL w v0 fs) (hb0 : IntSB fs) (r1 : rdsL w v1 ds) (hb1 : DescSB ds) :
    Calls Try.prog 6 #[v0, v1] w fun e w' => ∃ u : Value, e = .returned (.tuple #[u, .bool (serC fs ds).2]) ∧ rdsL w' u (serC fs ds).1 ∧ Below w.heap.size w w' :=
  (spec_Serial0 fs ds v0 v1 w r0 r1).mono fun _ _ ⟨u, he, ho, b⟩ => ⟨u, he, rdsInts.2 (Flat.of_owns ho), b⟩
theorem impl_SerialW (fs : List Int) (v0 : Value) (ds : List DescD) (v1 : Value) (w : World) (r0 : rdsL w v0 fs) (hb0 : IntSB fs) (r1 : rdsL w v1 ds) (hb1 : DescSB ds) :
    Calls Try.prog 9 #[v0, v1] w fun e w' => ∃ u : Value, ∃ S : Nat → Prop, e = .returned (.tuple #[u, .bool (serC fs ds).2]) ∧ ownL S w' u (serC fs ds).1 ∧ (∀ k, S k → Rg w.heap.size w'.heap.size k) ∧ IntSB (serC fs ds).1 ∧ Below w.heap.size w w' :=
  (impl_Serial0 fs ds v0 v1 w r0 r1 hb0 (storeB_parts (descSB_store hb1)).2.1).mono fun _ _ ⟨u, he, ho, b⟩ => ⟨u, _, he, ownI_of ho, fun _ h => h, serC_B hb0, b⟩
end Go.Proofs.Ytbbdchlabdilcaa
