/- The tied card of 'laws.FnExactReadSchedule': it answers true at every argument, and the argument reads behind the call as it read before; what the library's three tables and two errors hold is tied to the program's text. -/
import Derived.Test.YtjcoakgdhiiiaaaDoorReadSchedule
import Derived.Test.YtjcoakgdhiiiaaaDoorCards
import Derived.Test.YtjcoakgdhiiiaaaDoorTie
import Derived.SevenTiedAt
namespace Go.Proofs.YtjcoakgdhiiiaaaDoor
set_option maxRecDepth 100000
open Go
theorem holds : Rows.FnExactReadScheduleCardSaid :=
  Claim7.holds_tied_plain_at .later [] [.data, .data, .data, .sentinel, .sentinel] true (true, "33d514b0f4c8abac11a3aaa0645a80ecb6e5b4f95ee7faad90a44212575b95d2") true
    lawReadSchedule.f_holds (fun _ h => by cases h) (by kernel_rfl) (fun _ h => by cases h) fnExactReadSchedule_row_tie rfl ⟨rfl, rfl⟩ (by kernel_rfl) rfl
    (fun f fn hf hfn => by
      obtain rfl : f = 4 := Option.some.inj ((show Tryd.prog.funcNamed "loop.example/g00087/laws.FnExactReadSchedule" = some 4 by kernel_rfl).symm.trans hf) |>.symm
      obtain rfl : fn = Tryd.f4 := (Option.some.inj (Tryd.func4.symm.trans hfn)).symm
      exact ⟨by kernel_rfl, fun j t ht => by
        rw [Tryd.params4] at ht
        have h3 : t = 9 := by
          rcases j with _ | j
          · simpa using ht.symm
          · simp at ht
        subst h3
        exact (show Tryd.prog.wantsStandIn 9 = false by kernel_rfl)⟩)
    (by kernel_rfl)
end Go.Proofs.YtjcoakgdhiiiaaaDoor
