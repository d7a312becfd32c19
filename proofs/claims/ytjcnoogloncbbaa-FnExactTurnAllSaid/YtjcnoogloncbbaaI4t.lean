/- The program's chapter 4: must, isPlace, a turn. -/
import Derived.Test.YtjcnoogloncbbaaF4t
import Derived.Test.YtjcnoogloncbbaaS0
import Derived.Deep.RegionHeld3
import Derived.Deep.DrawnRows
namespace Go.Proofs.Ytjcnoogloncbbaa
set_option maxRecDepth 100000
open Go.RowKit Go.Proofs Go.Own
set_option linter.unusedVariables false
set_option linter.unusedSimpArgs false
/-- What is panicked with. -/
def refusal : PanicEntry := { v := .iface 90 (.agg #[]), recovered := false }
theorem impl_must_yes (w : World) : Calls Try.prog 55 #[.bool true] w fun e w' => e = .returned (.tuple #[]) ∧ w = w' := by
  go_enter Try.func55, Try.ntmps55
  go_wp2
  go_end0
  exact ⟨rfl, rfl⟩
theorem impl_must_no (w : World) : Calls Try.prog 55 #[.bool false] w fun e w' => e = .panicked [refusal] ∧ w = w' := by
  go_enter Try.func55, Try.ntmps55
  go_wp2
  exact ⟨rfl, rfl, rfl⟩
theorem impl_isPlace4 (a : Option Addr) (n cap : Nat) (x : Int) (w : World) (_hn : n ≤ 9223372036854775807) :
    Calls Try.prog 59 #[.slice a n cap, .int .i64 x] w fun e w' => e = .returned (.bool (inB x 0 (n - 1))) ∧ w = w' := by
  go_enter Try.func59, Try.ntmps59
  go_wp2
  all_goals go_ret
  all_goals (simp [inB, *]; try omega)
end Go.Proofs.Ytjcnoogloncbbaa
