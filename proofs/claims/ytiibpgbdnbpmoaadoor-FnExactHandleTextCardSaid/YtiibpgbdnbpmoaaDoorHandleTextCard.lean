/- The tied card of 'laws.FnExactHandleText': it answers true at every argument, and the argument reads behind the call as it read before; what the library's three tables hold is tied to the program's text. -/
import Derived.Test.YtiibpgbdnbpmoaaDoorHandleText
import Derived.Test.YtiibpgbdnbpmoaaDoorCards
import Derived.Test.YtiibpgbdnbpmoaaDoorTie
import Derived.SevenTiedAt
namespace Go.Proofs.YtiibpgbdnbpmoaaDoor
open Go
theorem holds : Rows.FnExactHandleTextCardSaid :=
  Claim7.holds_tied_plain_at .later [] [.data, .data, .data] true (true, "10404f52b315035f87b5cd26e7924e38edaeb02b81416795a6bc21aad6e8c626") false
    f_holds (fun _ h => by cases h) (by kernel_rfl) (fun _ h => by cases h) fnExactHandleText_row_tie rfl ⟨rfl, rfl⟩ (by kernel_rfl) rfl
    (fun f fn hf hfn => by
      obtain rfl : f = 3 := Option.some.inj ((show Tryd.prog.funcNamed "loop.example/g00087/laws.FnExactHandleText" = some 3 by kernel_rfl).symm.trans hf) |>.symm
      obtain rfl : fn = Tryd.f3 := (Option.some.inj (Tryd.func3.symm.trans hfn)).symm
      exact ⟨by kernel_rfl, fun j t ht => by
        rw [Tryd.params3] at ht
        have h3 : t = 3 := by
          rcases j with _ | j
          · simpa using ht.symm
          · simp at ht
        subst h3
        exact (show Tryd.prog.wantsStandIn 3 = false by kernel_rfl)⟩)
    (by kernel_rfl)
end Go.Proofs.YtiibpgbdnbpmoaaDoor
