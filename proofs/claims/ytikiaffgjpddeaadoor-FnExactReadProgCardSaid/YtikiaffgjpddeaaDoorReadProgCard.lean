/- The tied card of 'laws.FnExactReadProg': it answers true at every argument, and the argument reads behind the call as it read before; what the library's three tables and two errors hold is tied to the program's text. -/
import Derived.Test.YtikiaffgjpddeaaDoorReadProg
import Derived.Test.YtikiaffgjpddeaaDoorCards
import Derived.Test.YtikiaffgjpddeaaDoorTie
import Derived.SevenTiedAt
namespace Go.Proofs.YtikiaffgjpddeaaDoor
set_option maxRecDepth 100000
open Go
theorem holds : Rows.FnExactReadProgCardSaid :=
  Claim7.holds_tied_plain_at .later [] [.data, .data, .data, .sentinel, .sentinel] true (true, "22aee3999701f385a13db5726317fc5205646e388211f985eb490f6b9ef56ee8") true
    lawReadProg.f_holds (fun _ h => by cases h) (by kernel_rfl) (fun _ h => by cases h) fnExactReadProg_row_tie rfl ⟨rfl, rfl⟩ (by kernel_rfl) rfl
    (fun f fn hf hfn => by
      obtain rfl : f = 4 := Option.some.inj ((show Tryd.prog.funcNamed "loop.example/g00087/laws.FnExactReadProg" = some 4 by kernel_rfl).symm.trans hf) |>.symm
      obtain rfl : fn = Tryd.f4 := (Option.some.inj (Tryd.func4.symm.trans hfn)).symm
      exact ⟨by kernel_rfl, fun j t ht => by
        rw [Tryd.params4] at ht
        have h3 : t = 9 := by
          rcases j with _ | j
          · simpa using ht.symm
          · simp at ht
        subst h3
        exact (show Tryd.prog.wantsStandIn 9 = false by kernel_rfl)⟩)
    (by kernel_rfl)
end Go.Proofs.YtikiaffgjpddeaaDoor
