/- The tied card of 'laws.FnExactDescText': it answers true at every argument, and the argument reads behind the call as it read before; what the library's three tables hold is tied to the program's text. -/
import Derived.Test.YtmfepmbkgomlcaaDoorDescText
import Derived.Test.YtmfepmbkgomlcaaDoorCards
import Derived.Test.YtmfepmbkgomlcaaDoorTie
import Derived.SevenTiedAt
namespace Go.Proofs.YtmfepmbkgomlcaaDoor
set_option maxRecDepth 100000
open Go
theorem holds : Rows.FnExactDescTextCardSaid :=
  Claim7.holds_tied_plain_at .later [] [.data, .data, .data] true (true, "c077b6bdd52c98984c7de01bcaeb25a8837604b4c073ec32748ad70eb66f9887") false
    lawDescText.f_holds (fun _ h => by cases h) (by kernel_rfl) (fun _ h => by cases h) fnExactDescText_row_tie rfl ⟨rfl, rfl⟩ (by kernel_rfl) rfl
    (fun f fn hf hfn => by
      obtain rfl : f = 3 := Option.some.inj ((show Tryd.prog.funcNamed "loop.example/g00087/laws.FnExactDescText" = some 3 by kernel_rfl).symm.trans hf) |>.symm
      obtain rfl : fn = Tryd.f3 := (Option.some.inj (Tryd.func3.symm.trans hfn)).symm
      exact ⟨by kernel_rfl, fun j t ht => by
        rw [Tryd.params3] at ht
        have h3 : t = 24 := by
          rcases j with _ | j
          · simpa using ht.symm
          · simp at ht
        subst h3
        exact (show Tryd.prog.wantsStandIn 24 = false by kernel_rfl)⟩)
    (by kernel_rfl)
end Go.Proofs.YtmfepmbkgomlcaaDoor
