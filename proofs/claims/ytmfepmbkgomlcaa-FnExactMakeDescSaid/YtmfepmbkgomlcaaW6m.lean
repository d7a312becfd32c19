/- Chapter 6: MakeDesc's contracts as the law's walk takes them. -/
import Derived.Test.YtmfepmbkgomlcaaS6e
import Derived.Test.YtmfepmbkgomlcaaI6g
namespace Go.Proofs.Ytmfepmbkgomlcaa
set_option maxRecDepth 100000
open Go.RowKit Go.Proofs Go.Own
set_option linter.unusedVariables false
theorem spec_MakeDescW (ow : Int) (v : Value) (xs : List Entry) (w : World) (h : Entrys w v xs) (hx : xs.length ≤ 1048576) :
    Calls Try.prog 28 #[.int .i64 ow, v] w fun e w' => ∃ v' : Value, e = .returned (.tuple #[.agg #[.int .i64 (makeOw ow xs), .int .i64 0, v'], .bool (makeOk ow xs)]) ∧ Entrys w' v' (makeL ow xs) ∧ Below w.heap.size w w' :=
  (spec_MakeDesc0 ow v xs w h hx).mono fun _ _ ⟨v', he, ho, b⟩ => ⟨v', he, Flat.of_owns ho, b⟩
theorem impl_MakeDescW (ow : Int) (v : Value) (xs : List Entry) (w : World) (h : Entrys w v xs) (hx : xs.length ≤ 1048576) :
    Calls Try.prog 29 #[.int .i64 ow, v] w fun e w' => ∃ v' : Value, e = .returned (.tuple #[.agg #[.int .i64 (makeOw ow xs), .int .i64 0, v'], .bool (makeOk ow xs)]) ∧ w'.ownsRow w.heap.size 53 5 v' (makeL ow xs).length ((makeL ow xs).flatMap Entry.enc) ∧ (makeL ow xs).length ≤ 1048576 ∧ Below w.heap.size w w' :=
  (impl_MakeDesc0 ow v xs w h).mono fun _ _ ⟨v', he, ho, b⟩ => ⟨v', he, ho, by have := makeL_len ow xs; omega, b⟩
end Go.Proofs.Ytmfepmbkgomlcaa
